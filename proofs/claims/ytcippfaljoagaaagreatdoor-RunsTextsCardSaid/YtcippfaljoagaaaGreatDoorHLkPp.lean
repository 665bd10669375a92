import Derived.Test.YtcippfaljoagaaaGreatDoorHLkS
import Derived.Test.YtcippfaljoagaaaGreatDoorHClLa

set_option linter.unusedVariables false
set_option linter.unusedSimpArgs false
set_option maxRecDepth 100000
set_option maxHeartbeats 6400000
namespace Go.Proofs.YtcippfaljoagaaaGreatDoor
open Nds
theorem zmi {m:Nat}{t:Tr}(h:wfT ((m+1:Nat):Int) t)(x y:Int):zaH t x y=zah t (x+p2 m) (y+p2 m):=by
 cases t with
 | e=>rfl
 | s k =>
  have:=h.1;omega
 | n v a b c d =>
  have e:(((m+1:Nat)):Int)=v:=h.1;subst e;show zah _ _ _=_;rw[show(Tr.n ((m+1:Nat):Int) a b c d).lv.toNat-1=m from by show(((m+1:Nat)):Int).toNat-1=m;omega]
end Go.Proofs.YtcippfaljoagaaaGreatDoor

namespace Go.Proofs.YtcippfaljoagaaaGreatDoor
open Go.RowKit Num Nds
theorem zrz (n k:Nat):blen n≤k↔n<2^k:=by
 constructor
 ·intro h;exact Nat.lt_of_lt_of_le (zsW n) (Nat.pow_le_pow_right (by decide) h)
 ·intro h;by_cases h0:n=0
  ·subst h0;exact Nat.zero_le _
  ·have h1:=zsX h0;rcases Nat.lt_or_ge k (blen n) with h2|h2
   ·have h3:2^k≤2^(blen n-1):=Nat.pow_le_pow_right (by decide) (by omega);omega
   ·exact h2
def rcI (n:Int):Nat:=blen (if n<0 then -1-n else n).toNat
theorem zkW (k:Nat):p2 k=((2^k:Nat):Int):=by
 unfold p2;rw[Int.natCast_pow];rfl
theorem zjz (n:Int)(k:Nat):rcI n≤k↔-p2 k≤n∧n<p2 k:=by
 unfold rcI;rw[zrz,zkW];split <;> omega
theorem zaj {V:World}{g:Nat}{s:Bool}{A:Option Addr}{n c:Nat}(h:V.heap[g]?=some (.cells #[.bool s,.slice A n c] 48)):V.cell? ⟨g,0,none⟩=some (.bool s)∧V.cell? ⟨g,1,none⟩=some (.slice A n c) :=
 ⟨by rw[cell_of_row _ _ _ _ _ (0,0) h];rfl,by rw[cell_of_row _ _ _ _ _ (0,0) h];rfl⟩
def getQ (q:List Nd)(X Y:Int):Int:=zaH (den q q.length) X Y
theorem zpd {q:List Nd}(hq:zac q=true){m:Nat}(hl:zaB q=(m:Int)+1):∃p,q.length=p+1∧(at_ q p).lv=(m:Int)+1∧wfT ((m+1:Nat):Int) (den q (p+1)):=by
 unfold zaB at hl;by_cases h0:q=[]
 ·rw[if_pos h0] at hl;omega
 ·rw[if_neg h0] at hl;have h1:=List.length_pos_iff.2 h0;refine⟨q.length-1,by omega,hl,?_⟩;have h2:=zbz hq (q.length-1) (by omega)
  rwa [hl,show(m:Int)+1=((m+1:Nat):Int) by omega] at h2
theorem zrA {q:List Nd}(hq:zac q=true){X Y:Int}(h:zaB q<((max (rcI X) (rcI Y):Nat):Int)+1):getQ q X Y=0:=by
 unfold getQ;by_cases h0:q=[]
 ·subst h0;show zaH (den [] 0) X Y=0;rw[zav];rfl
 ·have hlv:1≤zaB q:=by
   unfold zaB;rw[if_neg h0];have h1:=List.length_pos_iff.2 h0;exact(zap (zaf hq (i:=q.length-1) (by omega))).1
  obtain⟨m,hm⟩:∃m:Nat,zaB q=(m:Int)+1:=⟨(zaB q-1).toNat,by omega⟩;obtain⟨p,hp,-,hw⟩:=zpd hq hm;rw[hp,zmi hw];refine zaq hw fun hin=>?_;have ep:=zan m;have h1:rcI X≤m:=(zjz X m).2 (by omega);have h2:rcI Y≤m:=(zjz Y m).2 (by omega);omega
theorem ztN {q:List Nd}(hq:zac q=true){m:Nat}(hl:zaB q=(m:Int)+1){X Y:Int}(hX : -p2 m≤X∧X<p2 m)(hY : -p2 m≤Y∧Y<p2 m)(hm:m≤1328):getQ q X Y=getF (m+1) q (q.length:Int) (X+p2 m) (Y+p2 m)∧kidB q (((m+1:Nat):Int)+1) (q.length:Int)=true:=by
 obtain⟨p,hp,hlv,hw⟩:=zpd hq hl;have ep:=zan m;have hne:(((m+1:Nat)):Int)+1≠1:=by omega
 have hk:kidB q (((m+1:Nat):Int)+1) (q.length:Int)=true:=by
  rw[hp,show(((p+1:Nat)):Int)=(p:Int)+1 by omega,zff _ _ _ hne (by omega)];exact decide_eq_true (by rw[hlv];omega)
 refine⟨?_,hk⟩;rw[zeO hq (m:=m+1) (by omega) hk (by omega) (by omega) (by omega) (by omega),zaF hne,Int.toNat_natCast];unfold getQ;rw[hp,zmi hw]
theorem zpe (m:Nat)(q:List Nd)(x y:Int):getF m q 0 x y=0:=by
 cases m with
 | zero=>rfl
 | succ m=>unfold getF;rw[if_pos rfl]
theorem zjA {q:List Nd}(hq:zac q=true)(X Y:Int):0≤getQ q X Y∧getQ q X Y≤255:=by
 have key:∀(t:Tr) (n:Nat) (x y:Int),wfT (n:Int) t→0≤zah t x y∧zah t x y≤255:=by
  intro t
  induction t with
  | e=>intro n x y _;exact⟨Int.le_refl 0,by show(0:Int)≤255;omega⟩
  | s k =>
   intro n x y h;show 0≤(if x=0∧y=0 then k else 0)∧(if x=0∧y=0 then k else 0)≤255;have:=h.2;split <;> omega
  | n v a b c d iha ihb ihc ihd =>
   intro n x y h;obtain⟨m,rfl,rfl,ha,hb,hc,hd,_⟩:=wf_n h;show 0≤zah (.n _ a b c d) x y∧_;unfold zah;split <;> split
   ·exact iha m _ _ ha
   ·exact ihc m _ _ hc
   ·exact ihb m _ _ hb
   ·exact ihd m _ _ hd
 unfold getQ;obtain⟨v,hv⟩:=zkH hq (Nat.le_refl q.length);have hw:∃n:Nat,wfT (n:Int) (den q q.length):=by
  generalize den q q.length=t at hv;cases t with
  | e=>exact⟨0,trivial⟩
  | s k=>exact⟨0,by rw[show((0:Nat):Int)=v from hv.1.symm];exact hv⟩
  | n u a b c d =>
   have h1:=hv.1;have h2:=hv.2.1;exact⟨v.toNat,by rwa [show((v.toNat:Nat):Int)=v by omega]⟩
 obtain⟨n,hn⟩:=hw;exact key _ n _ _ hn
theorem zno {q:List Nd}(hq:zac q=true):0≤zaB q∧zaB q≤1329:=by
 unfold zaB;by_cases h0:q=[]
 ·rw[if_pos h0];omega
 ·rw[if_neg h0];have h1:=List.length_pos_iff.2 h0;have h2:=zap (zaf hq (i:=q.length-1) (by omega));omega
end Go.Proofs.YtcippfaljoagaaaGreatDoor

namespace Go.Proofs.YtcippfaljoagaaaGreatDoor
open Go.RowKit Nds
theorem zbo.cells {w:World}{g:Nat}{x:Nd}(h:zbo w g x):w.cell? ⟨g,0,none⟩=some (.int .i64 x.lv)∧w.cell? ⟨g,1,none⟩=some (.int .i64 x.a)∧w.cell? ⟨g,2,none⟩=some (.int .i64 x.b)∧w.cell? ⟨g,3,none⟩=some (.int .i64 x.c)∧w.cell? ⟨g,4,none⟩=some (.int .i64 x.d):=h.at_
end Go.Proofs.YtcippfaljoagaaaGreatDoor
