import Derived.Test.YtfjajpnfjjdnpaaGreatDoorUMem
import Derived.RangeFuncNested
import Derived.RangeFuncBound
import Derived.RangeFuncCalls
import Derived.RangeFuncLeaves
import Derived.Shelf.Abstract
import Derived.Shelf.RegionOpen
import Derived.OwnWalkIn
import Derived.TacticsInMore
import Derived.LoopNIn
import Derived.LoopIn
import Derived.OwnWalk
import Derived.Deep.DeepCutAuto
import Derived.Deep.RegionWith

set_option linter.unusedVariables false
set_option linter.unusedSimpArgs false
set_option maxRecDepth 100000
set_option maxHeartbeats 6400000
namespace Go.Proofs.YtfjajpnfjjdnpaaGreatDoor
open Go.RowKit Go.Shelf Num
attribute [local go_sem] Oper.semAt_some
abbrev Item (n:Nat):Type:={ x:Nat × Nat // (0<n→x.1<n)∧x.2<4294967296 }
def it (xs:List Nat)(hd:Dig xs)(j:Nat):Item xs.length:=⟨(xs.length-1-j,xs[xs.length-1-j]?.getD 0),⟨fun h=>by omega,hd.getD _⟩⟩
def its (xs:List Nat)(hd:Dig xs)(k:Nat):List (Item xs.length):=(List.range k).map (it xs hd)
theorem zmA (xs:List Nat)(hd:Dig xs)(k:Nat):its xs hd (k+1)=its xs hd k++[it xs hd k]:=by simp[its,List.range_succ]
end Go.Proofs.YtfjajpnfjjdnpaaGreatDoor

namespace Go.Proofs.YtfjajpnfjjdnpaaGreatDoor
open Go.RowKit Num
theorem zmB (xs:List Bool):∀u∈xs.map Value.bool,u.oneCell'=true:=fun u hu=>by obtain⟨x,_,rfl⟩:=List.mem_map.1 hu;rfl
theorem zdh {w w':World}{base:Nat}{e:TypeId}{size:Nat}{v:Value}{n:Nat}{xs:List Value}(h:w.ownsRow base e size v n xs)(hb:Below w.heap.size w w'):w'.ownsRow base e size v n xs:=by
 refine⟨h.1,?_⟩;rcases h.2 with h1|⟨g,cap,cur,h1,h2,h3,h4⟩
 ·exact .inl h1
 ·refine .inr ⟨g,cap,cur,h1,h2,(hb.block g ?_).trans h3,h4⟩;rcases Nat.lt_or_ge g w.heap.size with hlt|hge
  ·exact hlt
  ·rw[Array.getElem?_eq_none hge] at h3;cases h3
theorem zmC {rs:List Nat}{n:Nat}(h:rs.length=n):rs.take n=rs:=List.take_of_length_le (by omega)
theorem zom (A:Option Addr)(c:Nat)(bs:List Bool)(i:Int)(w:World)(h:Bl w A c bs)(hl:bs.length≤100000000) :
  Calls Tryz.prog 156 #[.slice A bs.length c,.int .i64 i] w fun e w'=>e=.returned (.bool (decide (0≤i)&&bs[i.toNat]?.getD false))∧w=w':=by
 by_cases h0:0≤i
 ·obtain⟨k,rfl⟩:=Int.eq_ofNat_of_zero_le h0;rw[Int.toNat_natCast,decide_eq_true h0,Bool.true_and];obtain⟨x,hx⟩:∃x,x=bs[k]?.getD false:=⟨_,rfl⟩;by_cases hlt:k<bs.length
  ·obtain⟨b,off,rfl,hb,hc⟩:=h.at_ (by omega)
   have hck:=hc k hlt;rw[←hx] at hck ⊢;clear hc h hx;go_enter Tryz.func156,Tryz.ntmps156;go_wp2;go_ret;exact⟨rfl,rfl⟩
  ·rw[List.getElem?_eq_none (by omega)] at hx ⊢;clear h hx;go_enter Tryz.func156,Tryz.ntmps156;go_wp2;go_ret;exact⟨rfl,rfl⟩
 ·rw[decide_eq_false h0,Bool.false_and];clear h;go_enter Tryz.func156,Tryz.ntmps156;go_wp2;go_ret;exact⟨rfl,rfl⟩
def zfr (xs:List Nat):Bool:=xs.length==0||xs[xs.length-1]?.getD 0 != 0
theorem zjN (A:Option Addr)(c:Nat)(xs:List Nat)(w:World)(h:Us w A c xs)(hl:xs.length≤1000000) :
  Calls Tryz.prog 125 #[.slice A xs.length c] w fun e w'=>e=.returned (.bool (zfr xs))∧w=w':=by
 obtain⟨x,hx⟩:∃x,x=xs[xs.length-1]?.getD 0:=⟨_,rfl⟩;unfold zfr;by_cases hlt:0<xs.length
 ·obtain⟨b,off,rfl,hb,hc⟩:=h.at_ hlt
  have hck:=hc (xs.length-1) (by omega);have e0:(xs.length==0)=false:=by rw[beq_eq_false_iff_ne];omega
  rw[←hx] at hck ⊢;rw[e0,Bool.false_or];generalize xs.length=n at *;obtain⟨m,rfl⟩:∃m,n=m+1:=⟨n-1,by omega⟩;rw[Nat.add_sub_cancel] at hck;clear hc h hx e0;go_enter Tryz.func125,Tryz.ntmps125;by_cases hx0:x=0
  ·subst hx0;go_wp2;go_ret;exact⟨rfl,rfl⟩
  ·have hb1:((x:Int)==0)=false:=by rw[beq_eq_false_iff_ne];omega
   have hb2:((x:Int)!=0)=true:=by rw[bne_iff_ne];omega
   have e1:(x != 0)=true:=by rw[bne_iff_ne];omega
   rw[e1];clear e1 hx0;go_wp2;go_ret;exact⟨rfl,rfl⟩
 ·have e0:xs.length=0:=by omega
  rw[e0];clear h hx hl hlt e0;go_enter Tryz.func125,Tryz.ntmps125;go_wp2;go_ret;exact⟨rfl,rfl⟩
end Go.Proofs.YtfjajpnfjjdnpaaGreatDoor

namespace Go.Proofs.YtfjajpnfjjdnpaaGreatDoor
open Go.RowKit Go.Shelf Num
attribute [local go_sem] Oper.semAt_some
def zfs (Q:Exit→Act→World→Prop):Exit→Act→World→Prop
 | .normal,a,w=>Q .normal a w
 | _,_,_=>False
theorem zgb {P:Program}{c:Code}{a:Act}{w:World}{Q:Exit→Act→World→Prop}(h:c.wp P (zfs Q) a w):c.wp P Q a w :=
 wp_mono h fun e _ _ hq=>by cases e <;> first|exact hq|exact False.elim hq
end Go.Proofs.YtfjajpnfjjdnpaaGreatDoor
