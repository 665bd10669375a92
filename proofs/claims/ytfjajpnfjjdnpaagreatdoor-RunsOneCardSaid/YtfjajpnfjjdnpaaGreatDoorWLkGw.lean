import Derived.Test.YtfjajpnfjjdnpaaGreatDoorWClRd

set_option linter.unusedVariables false
set_option linter.unusedSimpArgs false
set_option maxRecDepth 100000
set_option maxHeartbeats 6400000
namespace Go.Proofs.YtfjajpnfjjdnpaaGreatDoor
open Go.RowKit Nds Num
theorem znD (A:Option Addr)(c n:Nat)(l:List Nd)(w:World)(h:Ns w A c l)(hn:l.length=n) :
  Calls Tryz.prog 21 #[.agg #[.slice A n c]] w fun e w'=>e=.returned (.int .i64 (zcs l))∧Below w.heap.size w w':=by
 have hcap:=h.cap;rw[hn] at hcap;have HB:=Hh ((Below.refl w.heap.size w).alloc (Nat.le_refl _) (.cells #[.slice A n c] 28));by_cases h0:n=0
 ·have hr:zcs l=0:=by
   unfold zcs;rw[if_pos (List.eq_nil_of_length_eq_zero (hn.trans h0))]
  rw[hr];have t1:((n:Int)==0)=true:=by rw[h0];rfl
  clear h0 hn hr h;go_enter Tryz.func21,Tryz.ntmps21;go_wp2_with fail;go_ret;exact⟨rfl,HB.out⟩
 ·obtain⟨b,off,rfl,hb,hc⟩:=h.at_ (by omega)
  obtain⟨p,rfl⟩:∃p,n=p+1:=⟨n-1,by omega⟩;have c1:=(hc p (by omega)).1;have hr:zcs l=(at_ l p).lv:=by
   unfold zcs;rw[if_neg (fun e=>by rw[e] at hn;cases hn),hn];rfl
  rw[hr];generalize (at_ l p).lv=u at *;have t1:(((p+1:Nat):Int)==0)=false:=beq_eq_false_iff_ne.2 (by omega);have t2:((p:Int)+1==0)=false:=beq_eq_false_iff_ne.2 (by omega);have i1:(p:Int)<(p:Int)+1:=by omega
  clear h0 hn hr h hc;go_enter Tryz.func21,Tryz.ntmps21;go_wp2_with fail;go_ret;exact⟨rfl,HB.out⟩
end Go.Proofs.YtfjajpnfjjdnpaaGreatDoor

namespace Go.Proofs.YtfjajpnfjjdnpaaGreatDoor
open Nds
theorem ztr {l:List Nd}(hl:zac l=true):∀{m:Nat} {k:Int},kidB l ((m:Int)+1) k=true→wfT (m:Int) (kidT (dens l) ((m:Int)+1) k)
 | 0,k,hk=>by
  have h:kidB l 1 k=true:=hk;rw[zei,decide_eq_true_iff] at h;exact zvi h
 | m+1,k,hk=>by
  have hne:(((m+1:Nat)):Int)+1≠1:=by omega
  rcases zaA hne hk with rfl|⟨p,rfl,hp,hlv⟩
  ·rw[zeu];trivial
  ·rw[zaB hne,show((p:Int)+1).toNat=p+1 by omega];have h:=zbv hl p hp
   rwa [hlv,show(((m+1:Nat)):Int)+1-1=((m+1:Nat):Int) by omega] at h
theorem zbo {t:Tr}{n:Nat}{x y:Int}(hw:wfT (n:Int) t)(h:¬ (0≤x∧x<p2 n∧0≤y∧y<p2 n)):zae t x y=0 :=
 Classical.byContradiction fun h2=>h (zan t n x y hw h2)
theorem zmu {l:List Nd}{x:Nd}{m:Nat}(h:x.lv=(m:Int)+1):norm (dens l) x=mk ((m:Int)+1) (kidT (dens l) ((m:Int)+1) (x.kid 0)) (kidT (dens l) ((m:Int)+1) (x.kid 1)) (kidT (dens l) ((m:Int)+1) (x.kid 2)) (kidT (dens l) ((m:Int)+1) (x.kid 3)):=by
 unfold norm;rw[h];rfl
end Go.Proofs.YtfjajpnfjjdnpaaGreatDoor

namespace Go.Proofs.YtfjajpnfjjdnpaaGreatDoor
open Go.RowKit Num Nds
theorem zpF (k:Nat):p2 k=((2^k:Nat):Int):=by
 unfold p2;rw[Int.natCast_pow];rfl
theorem zpG {V:World}{g:Nat}{s:Bool}{A:Option Addr}{n c:Nat}(h:V.heap[g]?=some (.cells #[.bool s,.slice A n c] 48)):V.cell? ⟨g,0,none⟩=some (.bool s)∧V.cell? ⟨g,1,none⟩=some (.slice A n c) :=
 ⟨by rw[cell_of_row _ _ _ _ _ (0,0) h];rfl,by rw[cell_of_row _ _ _ _ _ (0,0) h];rfl⟩
def getQ (q:List Nd)(X Y:Int):Int:=zaz (den q q.length) X Y
theorem zpH {q:List Nd}(hq:zac q=true)(X Y:Int):0≤getQ q X Y∧getQ q X Y≤255:=by
 have key:∀(t:Tr) (n:Nat) (x y:Int),wfT (n:Int) t→0≤zae t x y∧zae t x y≤255:=by
  intro t
  induction t with
  | e=>intro n x y _;exact⟨Int.le_refl 0,by show(0:Int)≤255;omega⟩
  | s k =>
   intro n x y h;show 0≤(if x=0∧y=0 then k else 0)∧(if x=0∧y=0 then k else 0)≤255;have:=h.2;split <;> omega
  | n v a b c d iha ihb ihc ihd =>
   intro n x y h;obtain⟨m,rfl,rfl,ha,hb,hc,hd,_⟩:=wf_n h;show 0≤zae (.n _ a b c d) x y∧_;unfold zae;split <;> split
   ·exact iha m _ _ ha
   ·exact ihc m _ _ hc
   ·exact ihb m _ _ hb
   ·exact ihd m _ _ hd
 unfold getQ;obtain⟨v,hv⟩:=zkH hq (Nat.le_refl q.length);have hw:∃n:Nat,wfT (n:Int) (den q q.length):=by
  generalize den q q.length=t at hv;cases t with
  | e=>exact⟨0,trivial⟩
  | s k=>exact⟨0,by rw[show((0:Nat):Int)=v from hv.1.symm];exact hv⟩
  | n u a b c d =>
   have h1:=hv.1;have h2:=hv.2.1;exact⟨v.toNat,by rwa [show((v.toNat:Nat):Int)=v by omega]⟩
 obtain⟨n,hn⟩:=hw;exact key _ n _ _ hn
end Go.Proofs.YtfjajpnfjjdnpaaGreatDoor
