import GoSem.Claim
import Derived.Laws.RangeAny
import Derived.Laws.Strings
import Derived.Laws.Strings2
import Derived.Laws.Strings3
import Derived.Lib.Bytealg
import Derived.Lib.OthersKept
import Derived.Deep.QuietTactic
import Derived.BigQuiet
import Derived.LoopTactic
import Derived.WalkKit
import Derived.Test.YtbabbmdpgpcgjaaGreatDoorHLen32
import Derived.WalkSpells
import Derived.WalkLawsBesides
import Derived.Deep.Draws
import Derived.Maps.AppendAt
import Derived.Test.YtbabbmdpgpcgjaaGreatDoorHTk

set_option linter.unusedVariables false
set_option linter.unusedSimpArgs false
set_option maxRecDepth 100000
set_option maxHeartbeats 6400000
namespace Go.Proofs.YtbabbmdpgpcgjaaGreatDoor
namespace Txt
def sgn (b:UInt8):Bool:=decide (33≤b.toNat∧b.toNat≤126)
def zlv (l:List UInt8):Bool:=decide (1≤l.length∧l.length≤40)&&l.all sgn
theorem zvC {l:List UInt8}{k:Nat}{b:UInt8}(hb:l[k]?=some b)(h:sgn b=false):l.all sgn=false:=by
 rw[Bool.eq_false_iff];intro h1;have:=List.all_eq_true.1 h1 b (List.mem_of_getElem? hb);rw[h] at this;cases this
theorem zsE {l:List UInt8}(h:∀b∈l.take l.length,sgn b=true):l.all sgn=true:=by
 rw[List.take_length] at h;exact List.all_eq_true.2 h
theorem zsF {l:List UInt8}{k:Nat}{b:UInt8}(h:l[k]?=some b)(hd:sgn b=true)(hp:∀x∈l.take k,sgn x=true):∀x∈l.take (k+1),sgn x=true:=by
 intro x hx;rw[List.take_add_one,h] at hx;rcases List.mem_append.1 hx with hx|hx
 ·exact hp x hx
 ·simp at hx;rw[hx];exact hd
def comm:List UInt8→List UInt8→Nat
 | a :: l,b :: m=>if a=b then comm l m+1 else 0
 | _,_=>0
theorem zfK:∀(l m:List UInt8),comm l m≤l.length
 | [],_=>by unfold comm;simp
 | _ :: _,[]=>by unfold comm;simp
 | a :: l,b :: m=>by
  unfold comm;have:=zfK l m;rw[List.length_cons];split <;> omega
theorem zgB:∀(l m:List UInt8),comm l m=comm m l
 | [],[]=>rfl
 | [],_ :: _=>rfl
 | _ :: _,[]=>rfl
 | a :: l,b :: m=>by
  unfold comm;rw[zgB l m];by_cases h:a=b
  ·rw[if_pos h,if_pos h.symm]
  ·rw[if_neg h,if_neg (Ne.symm h)]
theorem ziQ {i:Nat}:∀{a b:List UInt8},a.take i=b.take i→i≤a.length→i≤b.length→(∀x y,a[i]?=some x→b[i]?=some y→x≠y)→comm a b=i:=by
 induction i with
 | zero =>
  intro a b _ _ _ e
  match a,b with
  | [],_=>rfl
  | _ :: _,[]=>rfl
  | x :: a,y :: b =>
   unfold comm;rw[if_neg (e x y rfl rfl)]
 | succ i ih =>
  intro a b h h1 h2 e
  match a,b with
  | [],_=>simp at h1
  | _ :: _,[]=>simp at h2
  | x :: a,y :: b =>
   rw[List.take_succ_cons,List.take_succ_cons] at h;obtain⟨rfl,h3⟩:=List.cons.inj h;rw[comm,if_pos rfl,ih h3 (by simpa using h1) (by simpa using h2) (fun u v hu hv=>e u v (by simpa using hu) (by simpa using hv))]
theorem zjY {a b:List UInt8}{i:Nat}{x:UInt8}(h:a.take i=b.take i)(ha:a[i]?=some x)(hb:b[i]?=some x):a.take (i+1)=b.take (i+1):=by
 rw[List.take_add_one,List.take_add_one,ha,hb,h]
end Txt
end Go.Proofs.YtbabbmdpgpcgjaaGreatDoor

namespace Go.Proofs.YtbabbmdpgpcgjaaGreatDoor
open Go.RowKit Txt
theorem zbQ {s:ByteArray}{k:Nat}(h:k<s.size):s.data.toList[k]?=some (s[k]'h):=by
 rw[List.getElem?_eq_getElem (by simpa using h)];rfl
theorem zaf (s:ByteArray):s.data.toList.length=s.size:=by simp
theorem tx_b {a b:Bool}(h:a=b):Ending.returned (.bool a)=.returned (.bool b):=by rw[h]
theorem tx_i {a b:Int}(h:a=b):Ending.returned (.int .i64 a)=.returned (.int .i64 b):=by rw[h]
theorem zgC (b:UInt8):sgn b=decide (33≤(b.toNat:Int)∧(b.toNat:Int)≤126):=by
 unfold sgn;exact decide_eq_decide.2 ⟨fun h=>by omega,fun h=>by omega⟩
theorem zsG (w:World)(n:Nat):∃m,w.drewN n=w.drewN m:=⟨n,rfl⟩
theorem zmO (w:World)(n k:Nat):∃m,(w.drewN n).drewN k=w.drewN m:=⟨n+k,World.drewN_drewN _ _ _⟩
theorem zlw {f:FuncId}{args:Array Value}{w:World}{n:Nat}{v:Value}(h:Calls Tryz.prog f args (w.drewN n) fun e w'=>e=.returned v∧w.drewN n=w'):Calls Tryz.prog f args (w.drewN n) fun e w''=>e=.returned v∧∃m,w''=w.drewN m :=
 h.mono fun _ _ ⟨he,hm⟩=>⟨he,n,hm.symm⟩
theorem ziR (n:Int)(w:World) :
  Calls Tryz.prog 89 #[.int .u8 n] w fun e w'=>e=.returned (.bool (decide (33≤n∧n≤126)))∧w=w':=by
 go_enter Tryz.func89,Tryz.ntmps89;rcases(show n<33∨(33≤n∧n≤126)∨(33≤n∧126<n) by omega) with h|h|h
 all_goals
  go_wp2;go_ret;refine⟨tx_b ?_,rfl⟩;simp;omega
theorem zgD (n:Int)(w:World) :
  Calls Tryz.prog 53 #[.int .u8 n] w fun e w'=>e=.returned (.bool (decide (33≤n∧n≤126)))∧w=w':=by
 go_enter Tryz.func53,Tryz.ntmps53;rcases(show n<33∨(33≤n∧n≤126)∨(33≤n∧126<n) by omega) with h|h|h
 all_goals
  go_wp2;go_ret;refine⟨tx_b ?_,rfl⟩;simp;omega
theorem zjZ (s:ByteArray)(w:World)(hs:s.size≤maxLen) :
  Calls Tryz.prog 28 #[.string s] w fun e w'=>e=.returned (.bool (zlv s.data.toList))∧w=w':=by
 have hl:=zaf s;unfold maxLen at hs;have HL:=Hh hl;clear hl;obtain⟨R,hR⟩:∃R,R=zlv s.data.toList:=⟨_,rfl⟩;rw[←hR];have HR:=Hh hR;clear hR;go_enter Tryz.func28,Tryz.ntmps28;go_wp2;go_loop [3] (fun i=>∃(k:Nat),k≤s.size∧i=.int .i64 k∧(∀b∈s.data.toList.take k,sgn b=true)) (fun i=>s.size-(intOf i).toNat)
 case atStart=>exact⟨0,Nat.zero_le _,rfl,by simp⟩
 case round =>
  obtain⟨k,hk,rfl,hd⟩:=hrel;have HD:=Hh hd;clear hd;by_cases hlt:k<s.size
  ·have HG:=Hh (zbQ hlt);cases hb:sgn (s[k]'hlt) with
   | true =>
    have HB:=Hh hb;rw[zgC] at hb;go_wp2_with (go_at_call 53;refine(zgD _ _).mono ?_;rintro e w1 ⟨rfl,rfl⟩;rw[hb]);go_round
    case rel=>exact⟨k+1,by omega,by go_num,zsF HG.out HB.out HD.out⟩
    case measure=>simp[intOf];omega
   | false =>
    have HB:=Hh hb;rw[zgC] at hb;go_wp2_with (go_at_call 53;refine(zgD _ _).mono ?_;rintro e w1 ⟨rfl,rfl⟩;rw[hb]);go_ret;refine⟨tx_b ?_,rfl⟩;rw[HR.out];unfold zlv;rw[zvC HG.out HB.out,Bool.and_false]
  ·have hf:s.data.toList.all sgn=true:=zsE (by rw[HL.out,show s.size=k by omega];exact HD.out);have hr:zlv s.data.toList=decide (1≤s.size∧s.size≤40):=by
    unfold zlv;rw[hf,Bool.and_true,HL.out]
   have hr2:=HR.out.trans hr;clear hf hr HR;subst hr2;rcases(show s.size<1∨(1≤s.size∧s.size≤40)∨(1≤s.size∧40<s.size) by omega) with h|h|h
   all_goals
    go_wp2;go_ret;refine⟨tx_b ?_,rfl⟩;simp;omega
theorem znR (s t:ByteArray)(w:World)(hs:s.size≤maxLen)(ht:t.size≤maxLen) :
  Calls Tryz.prog 122 #[.string s,.string t] w fun e w'=>e=.returned (.int .i64 (comm s.data.toList t.data.toList:Nat))∧∃m,w'=w.drewN m:=by
 have HL:=Hh (zaf s);have HT:=Hh (zaf t);unfold maxLen at hs ht;go_enter Tryz.func122,Tryz.ntmps122;obtain⟨R,hR⟩:∃R:Nat,R=comm s.data.toList t.data.toList:=⟨_,rfl⟩;rw[←hR];have HR:=Hh hR;clear hR;rcases(show s.size≤t.size∨t.size<s.size by omega) with h|h
 ·go_wp2;go_loopw [6,13] (fun v i w'=>∃(k:Nat) (z:Value) (nd:Nat),w'=w.drewN nd∧k≤s.size∧v=z∧i=.int .i64 k∧s.data.toList.take k=t.data.toList.take k) (fun _ i _=>s.size-(intOf i).toNat)
  case atStart=>exact⟨0,_,0,rfl,Nat.zero_le _,rfl,rfl,by simp⟩
  case round =>
   obtain⟨k,z,nd,rfl,hk,rfl,rfl,hd⟩:=hrel;have HD:=Hh hd;clear hd;by_cases hlt:k<s.size
   ·have h1:k<s.size:=by omega
    have h2:k<t.size:=by omega
    have HG:=Hh (zbQ h1);have HF:=Hh (zbQ h2);by_cases hq:s[k]'h1=t[k]'h2
    ·have hb:(((s[k]'h1).toNat:Int)!=((t[k]'h2).toNat:Int))=false:=by rw[hq];simp
     have HQ:=Hh hq;clear hq;go_wp2;go_quiet (fail);go_wp2;go_roundw
     case rel=>exact⟨k+1,_,_,rfl,by omega,rfl,by go_num,zjY HD.out (by rw[HG.out,HQ.out]) HF.out⟩
     case measure=>simp[intOf];omega
    ·have hb:(((s[k]'h1).toNat:Int)!=((t[k]'h2).toNat:Int))=true:=by
      rw[bne_iff_ne];intro e;exact hq (UInt8.toNat_inj.1 (by omega))
     have HQ:=Hh hq;clear hq;go_wp2;go_quiet (fail);go_wp2;go_ret;refine⟨tx_i ?_,(by first|exact zsG _ _|exact zmO _ _ _)⟩;rw[HR.out,ziQ HD.out (by rw[HL.out];omega) (by rw[HT.out];omega) (fun x y hx hy=>by
      rw[HG.out] at hx;rw[HF.out] at hy;cases hx;cases hy;exact HQ.out)]
   ·go_wp2;go_ret;refine⟨tx_i ?_,(by first|exact zsG _ _|exact zmO _ _ _)⟩;rw[HR.out,ziQ HD.out (by rw[HL.out];omega) (by rw[HT.out];omega) (fun x y hx hy=>by
     have hx':=(List.getElem?_eq_some_iff.1 hx).1;have hy':=(List.getElem?_eq_some_iff.1 hy).1;rw[HL.out] at hx';rw[HT.out] at hy';omega)]
    omega
 ·go_wp2;go_loopw [6,13] (fun v i w'=>∃(k:Nat) (z:Value) (nd:Nat),w'=w.drewN nd∧k≤t.size∧v=z∧i=.int .i64 k∧s.data.toList.take k=t.data.toList.take k) (fun _ i _=>t.size-(intOf i).toNat)
  case atStart=>exact⟨0,_,0,rfl,Nat.zero_le _,rfl,rfl,by simp⟩
  case round =>
   obtain⟨k,z,nd,rfl,hk,rfl,rfl,hd⟩:=hrel;have HD:=Hh hd;clear hd;by_cases hlt:k<t.size
   ·have h1:k<s.size:=by omega
    have h2:k<t.size:=by omega
    have HG:=Hh (zbQ h1);have HF:=Hh (zbQ h2);by_cases hq:s[k]'h1=t[k]'h2
    ·have hb:(((s[k]'h1).toNat:Int)!=((t[k]'h2).toNat:Int))=false:=by rw[hq];simp
     have HQ:=Hh hq;clear hq;go_wp2;go_quiet (fail);go_wp2;go_roundw
     case rel=>exact⟨k+1,_,_,rfl,by omega,rfl,by go_num,zjY HD.out (by rw[HG.out,HQ.out]) HF.out⟩
     case measure=>simp[intOf];omega
    ·have hb:(((s[k]'h1).toNat:Int)!=((t[k]'h2).toNat:Int))=true:=by
      rw[bne_iff_ne];intro e;exact hq (UInt8.toNat_inj.1 (by omega))
     have HQ:=Hh hq;clear hq;go_wp2;go_quiet (fail);go_wp2;go_ret;refine⟨tx_i ?_,(by first|exact zsG _ _|exact zmO _ _ _)⟩;rw[HR.out,ziQ HD.out (by rw[HL.out];omega) (by rw[HT.out];omega) (fun x y hx hy=>by
      rw[HG.out] at hx;rw[HF.out] at hy;cases hx;cases hy;exact HQ.out)]
   ·go_wp2;go_ret;refine⟨tx_i ?_,(by first|exact zsG _ _|exact zmO _ _ _)⟩;rw[HR.out,ziQ HD.out (by rw[HL.out];omega) (by rw[HT.out];omega) (fun x y hx hy=>by
     have hx':=(List.getElem?_eq_some_iff.1 hx).1;have hy':=(List.getElem?_eq_some_iff.1 hy).1;rw[HL.out] at hx';rw[HT.out] at hy';omega)]
    omega
end Go.Proofs.YtbabbmdpgpcgjaaGreatDoor

namespace Go.Proofs.YtbabbmdpgpcgjaaGreatDoor
open Go.RowKit Num
def Rd (w:World)(A:Option Addr)(c:Nat)(vs:List Value):Prop :=
 vs.length≤c∧c≤maxLen∧(0<vs.length→∃b off,A=some ⟨b,off,none⟩∧b<w.heap.size∧∀j u,vs[j]?=some u→w.cell? ⟨b,off+j,none⟩=some u)
abbrev u32v (x:Nat):Value:=.int .u32 (x:Int)
def Us (w:World)(A:Option Addr)(c:Nat)(xs:List Nat):Prop:=Dig xs∧Rd w A c (xs.map u32v)
def Bl (w:World)(A:Option Addr)(c:Nat)(bs:List Bool):Prop:=Rd w A c (bs.map Value.bool)
theorem Rd.below {w w':World}{A:Option Addr}{c:Nat}{vs:List Value}(h:Rd w A c vs)(hb:Below w.heap.size w w'):Rd w' A c vs :=
 ⟨h.1,h.2.1,fun hn=>by
  obtain⟨b,off,e,hlt,hc⟩:=h.2.2 hn;exact⟨b,off,e,Nat.lt_of_lt_of_le hlt hb.size,fun j u hu=>(hb.cell (p:=⟨b,off+j,none⟩) hlt).trans (hc j u hu)⟩⟩
theorem Us.below {w w':World}{A:Option Addr}{c:Nat}{xs:List Nat}(h:Us w A c xs)(hb:Below w.heap.size w w'):Us w' A c xs:=⟨h.1,h.2.below hb⟩
theorem Bl.below {w w':World}{A:Option Addr}{c:Nat}{bs:List Bool}(h:Bl w A c bs)(hb:Below w.heap.size w w'):Bl w' A c bs:=Rd.below h hb
theorem Rd.nil (w:World):Rd w none 0 []:=⟨Nat.le_refl _,by simp[maxLen],fun h=>absurd h (by simp)⟩
theorem Us.nil (w:World):Us w none 0 []:=⟨Dig.nil,Rd.nil w⟩
theorem Us.cap {w:World}{A:Option Addr}{c:Nat}{xs:List Nat}(h:Us w A c xs):xs.length≤c∧c≤9223372036854775807:=by
 have h1:=h.2.1;have h2:=h.2.2.1;simp only[maxLen,List.length_map] at h1 h2;exact⟨h1,by omega⟩
theorem Bl.cap {w:World}{A:Option Addr}{c:Nat}{xs:List Bool}(h:Bl w A c xs):xs.length≤c∧c≤9223372036854775807:=by
 have h1:=h.1;have h2:=h.2.1;simp only[maxLen,List.length_map] at h1 h2;exact⟨h1,by omega⟩
theorem Us.at_ {w:World}{A:Option Addr}{c:Nat}{xs:List Nat}(h:Us w A c xs)(hn:0<xs.length) :
  ∃b off,A=some ⟨b,off,none⟩∧b<w.heap.size∧∀j,j<xs.length→w.cell? ⟨b,off+j,none⟩=some (.int .u32 (xs[j]?.getD 0:Nat)):=by
 obtain⟨b,off,e,hb,hc⟩:=h.2.2.2 (by simpa using hn);exact⟨b,off,e,hb,fun j hj=>hc j _ (by simp[List.getElem?_eq_getElem hj])⟩
theorem Bl.at_ {w:World}{A:Option Addr}{c:Nat}{xs:List Bool}(h:Bl w A c xs)(hn:0<xs.length) :
  ∃b off,A=some ⟨b,off,none⟩∧b<w.heap.size∧∀j,j<xs.length→w.cell? ⟨b,off+j,none⟩=some (.bool (xs[j]?.getD false)):=by
 obtain⟨b,off,e,hb,hc⟩:=h.2.2 (by simpa using hn);exact⟨b,off,e,hb,fun j hj=>hc j _ (by simp[List.getElem?_eq_getElem hj])⟩
theorem Rd.own {w:World}{base:Nat}{e:TypeId}{A:Option Addr}{n c:Nat}{vs:List Value}(h:w.ownsRow base e 1 (.slice A n c) n vs):Rd w A c vs:=by
 have hl:vs.length=n:=by simpa using h.1
 rcases h.2 with⟨h',hn⟩|⟨g,cap,cur,h',hb,hg,hnc,hcm,hcs,htake⟩
 ·simp only[Value.slice.injEq] at h';obtain⟨rfl,rfl,rfl⟩:=h';exact⟨by omega,by simp[maxLen],fun h=>by omega⟩
 ·simp only[Value.slice.injEq,true_and] at h';obtain⟨rfl,rfl⟩:=h';refine⟨by omega,hcm,fun hn=>⟨g,0,rfl,?_,fun j u hu=>?_⟩⟩
  ·rcases Nat.lt_or_ge g w.heap.size with hlt|hge
   ·exact hlt
   ·rw[Array.getElem?_eq_none hge] at hg;cases hg
  ·rw[Nat.zero_add];have hj:j<vs.length:=by
    rcases Nat.lt_or_ge j vs.length with hlt|hge
    ·exact hlt
    ·rw[List.getElem?_eq_none hge] at hu;cases hu
   exact(h.cellAt j (by omega)).trans hu
theorem zcm {w:World}{base:Nat}{e:TypeId}{v:Value}{n:Nat}{vs:List Value}(h:w.ownsRow base e 1 v n vs):∃A c,v=.slice A n c:=by
 rcases h.2 with⟨rfl,rfl⟩|⟨g,cap,cur,rfl,_⟩
 ·exact⟨_,_,rfl⟩
 ·exact⟨_,_,rfl⟩
theorem zac {B:Nat}{a w:World}(h:Below B a w)(n:Nat):Below B a (w.drewN n):=⟨h.os,h.tape,h.output,h.size,h.block⟩
theorem zaA (w:World)(v:Value)(t:TypeId):(w.alloc (.cells #[v] t)).cell? ⟨w.heap.size,0,none⟩=some v∧(w.alloc (.cells #[v] t)).frozen? ⟨w.heap.size,0,none⟩=false:=by
 have h:=heap_alloc_new w (.cells #[v] t);exact⟨by rw[cell_of_row _ _ _ _ _ _ h];rfl,frozen_of_row _ _ _ _ _ h⟩
theorem zag {w:World}{p:Addr}{v:Value}(h:w.cell? p=some v):p.block<w.heap.size:=by
 rcases Nat.lt_or_ge p.block w.heap.size with hlt|hge
 ·exact hlt
 ·simp[World.cell?,Array.getElem?_eq_none hge] at h
theorem zaU {w:World}{p:Addr}{v:Value}(o:Obj)(h:w.cell? p=some v):(w.alloc o).cell? p=some v:=(World.cell?_alloc_lt w o p (zag h)).trans h
theorem zbN {w:World}{p:Addr}{v:Value}{b:Bool}(o:Obj)(h:w.cell? p=some v)(hf:w.frozen? p=b):(w.alloc o).frozen? p=b :=
 (World.frozen?_of_block (Below.heap_alloc w o p.block (zag h))).trans hf
def RetU (n:Nat)(w:World)(e:Ending)(w':World):Prop :=
 ∃A c rs,e=.returned (.slice A rs.length c)∧Us w' A c rs∧zaS rs∧val rs=n∧Below w.heap.size w w'
def RetB (n:Nat)(w:World)(e:Ending)(w':World):Prop :=
 ∃A c bs,e=.returned (.slice A bs.length c)∧Bl w' A c bs∧zbn bs∧bval bs=n∧Below w.heap.size w w'
theorem Tryz.infoU:(Tryz.prog.info? 136).map (fun i=>(i.zero,i.size,i.bytes))=some (some (.int .u32 0),1,4):=by kernel_rfl
theorem Tryz.infoB:(Tryz.prog.info? 4).map (fun i=>(i.zero,i.size,i.bytes))=some (some (.bool false),1,1):=by kernel_rfl
end Go.Proofs.YtbabbmdpgpcgjaaGreatDoor
