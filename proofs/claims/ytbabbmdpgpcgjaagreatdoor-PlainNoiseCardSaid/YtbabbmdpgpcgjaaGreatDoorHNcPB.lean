import Derived.Test.YtbabbmdpgpcgjaaGreatDoorHLkP

set_option linter.unusedVariables false
set_option linter.unusedSimpArgs false
set_option maxRecDepth 100000
set_option maxHeartbeats 6400000
namespace Go.Proofs.YtbabbmdpgpcgjaaGreatDoor
open Go.RowKit Num Nds
theorem zak {V:World}{g:Nat}{s:Bool}{A:Option Addr}{n c:Nat}(h:V.heap[g]?=some (.cells #[.bool s,.slice A n c] 69)):V.cell? ⟨g,0,none⟩=some (.bool s)∧V.cell? ⟨g,1,none⟩=some (.slice A n c) :=
 ⟨by rw[cell_of_row _ _ _ _ _ (0,0) h];rfl,by rw[cell_of_row _ _ _ _ _ (0,0) h];rfl⟩
end Go.Proofs.YtbabbmdpgpcgjaaGreatDoor

namespace Go.Proofs.YtbabbmdpgpcgjaaGreatDoor
open Nds
theorem zqE {l:List Nd}(hl:zai l=true):∀{m:Nat} {k:Int},kidB l ((m:Int)+1) k=true→wfT (m:Int) (kidT (dens l) ((m:Int)+1) k)
 | 0,k,hk=>by
  have h:kidB l 1 k=true:=hk;rw[zeF,decide_eq_true_iff] at h;exact zxD h
 | m+1,k,hk=>by
  have hne:(((m+1:Nat)):Int)+1≠1:=by omega
  rcases zbc hne hk with rfl|⟨p,rfl,hp,hlv⟩
  ·rw[zeP];trivial
  ·rw[zaY hne,show((p:Int)+1).toNat=p+1 by omega];have h:=zbY hl p hp
   rwa [hlv,show(((m+1:Nat)):Int)+1-1=((m+1:Nat):Int) by omega] at h
theorem zat {t:Tr}{n:Nat}{x y:Int}(hw:wfT (n:Int) t)(h:¬ (0≤x∧x<p2 n∧0≤y∧y<p2 n)):zae t x y=0 :=
 Classical.byContradiction fun h2=>h (zar t n x y hw h2)
def qtI (h x y:Int):Nat:=(if x<h then 0 else 1)+(if y<h then 0 else 2)
def subI (h x:Int):Int:=if x<h then x else x-h
theorem zqF (h x y:Int):qtI h x y<4:=by
 unfold qtI;split <;> split <;> omega
def zhg (m:Nat)(l:List Nd)(n:Int):Nd:=if n=0 then ⟨(m:Int)+1,0,0,0,0⟩ else at_ l (n-1).toNat
theorem znr {l:List Nd}(hl:zai l=true){m:Nat}(hm:m≤1328){n:Int}(hn:kidB l (((m+1:Nat))+1:Int) n=true):fitB l (zhg m l n)=true∧(zhg m l n).lv=(m:Int)+1∧kidT (dens l) (((m+1:Nat))+1:Int) n=norm (dens l) (zhg m l n):=by
 have hne:(((m+1:Nat)):Int)+1≠1:=by omega
 unfold zhg;rcases zbc hne hn with rfl|⟨p,rfl,hp,hlv⟩
 ·rw[if_pos rfl,zeP];have hk:∀v:Int,1≤v→kidB l v 0=true:=fun v hv=>by
   by_cases h1:v=1
   ·rw[h1,zeF];rfl
   ·exact zjW _ _ h1
  refine⟨?_,rfl,?_⟩
  ·unfold fitB Nd.each;rw[decide_eq_true (show 1≤(m:Int)+1∧(m:Int)+1≤1329 by omega)];show(true&&(kidB l ((m:Int)+1) 0&&kidB l ((m:Int)+1) 0&&kidB l ((m:Int)+1) 0&&kidB l ((m:Int)+1) 0))=true;rw[hk _ (by omega)];rfl
  ·show _=mk _ (kidT (dens l) ((m:Int)+1) 0) (kidT (dens l) ((m:Int)+1) 0) (kidT (dens l) ((m:Int)+1) 0) (kidT (dens l) ((m:Int)+1) 0);rw[zeP];rfl
 ·rw[if_neg (by omega),show((p:Int)+1-1).toNat=p by omega];refine⟨zaq hl hp,by omega,?_⟩;rw[zaY hne,show((p:Int)+1).toNat=p+1 by omega,zbR hl hp]
theorem zjs {l:List Nd}{x:Nd}{m:Nat}(h:x.lv=(m:Int)+1):norm (dens l) x=mk ((m:Int)+1) (kidT (dens l) ((m:Int)+1) (x.kid 0)) (kidT (dens l) ((m:Int)+1) (x.kid 1)) (kidT (dens l) ((m:Int)+1) (x.kid 2)) (kidT (dens l) ((m:Int)+1) (x.kid 3)):=by
 unfold norm;rw[h];rfl
def getF:Nat→List Nd→Int→Int→Int→Int
 | 0,_,n,_,_=>n
 | m+1,l,n,x,y=>if n=0 then 0 else getF m l ((zhg m l n).kid (qtI (p2 m) x y)) (subI (p2 m) x) (subI (p2 m) y)
theorem zeZ {l:List Nd}(hl:zai l=true):∀{m:Nat} {n x y:Int},m≤1329→kidB l ((m:Int)+1) n=true→0≤x→x<p2 m→0≤y→y<p2 m→getF m l n x y=zae (kidT (dens l) ((m:Int)+1) n) x y
 | 0,n,x,y,_,hn,hx0,hx,hy0,hy=>by
  rw[zft] at hx hy;obtain rfl:x=0:=by omega
  obtain rfl:y=0:=by omega
  show n=zae (st n) 0 0;unfold st;split
  ·rename_i h;rw[h];rfl
  ·rfl
 | m+1,n,x,y,hm,hn,hx0,hx,hy0,hy=>by
  obtain⟨h1,h2,h3⟩:=znr hl (by omega) hn;have hw:∀i,i<4→wfT (m:Int) (kidT (dens l) ((m:Int)+1) ((zhg m l n).kid i)):=fun i hi=>zqE hl (by have:=zav h1 hi;rwa [h2] at this);have hk:∀i,i<4→kidB l ((m:Int)+1) ((zhg m l n).kid i)=true:=fun i hi=>by have:=zav h1 hi;rwa [h2] at this
  have hp:=zap m;have hp1:=zaz m;unfold getF;rw[h3,zjs h2,zdC (hw 0 (by omega)) (hw 1 (by omega)) (hw 2 (by omega)) (hw 3 (by omega))];by_cases hn0:n=0
  ·rw[if_pos hn0];have e:zhg m l n=⟨(m:Int)+1,0,0,0,0⟩:=by unfold zhg;rw[if_pos hn0]
   rw[e];show(0:Int)=zae (kidT (dens l) _ 0) _ _+zae (kidT (dens l) _ 0) _ _+zae (kidT (dens l) _ 0) _ _+zae (kidT (dens l) _ 0) _ _;rw[zeP];rfl
  ·rw[if_neg hn0];unfold qtI subI;by_cases hx1:x<p2 m
   ·by_cases hy1:y<p2 m
    ·simp only[hx1,hy1,if_true];rw[zeZ hl (by omega) (hk _ (by omega)) hx0 hx1 hy0 hy1,zat (hw 1 (by omega)) (by omega),zat (hw 2 (by omega)) (by omega),zat (hw 3 (by omega)) (by omega)];simp
    ·simp only[hx1,hy1,if_true,if_false];rw[zeZ hl (by omega) (hk _ (by omega)) hx0 hx1 (by omega) (by omega),zat (hw 0 (by omega)) (by omega),zat (hw 1 (by omega)) (by omega),zat (hw 3 (by omega)) (by omega)];simp
   ·by_cases hy1:y<p2 m
    ·simp only[hx1,hy1,if_true,if_false];rw[zeZ hl (by omega) (hk _ (by omega)) (by omega) (by omega) hy0 hy1,zat (hw 0 (by omega)) (by omega),zat (hw 2 (by omega)) (by omega),zat (hw 3 (by omega)) (by omega)];simp
    ·simp only[hx1,hy1,if_false];rw[zeZ hl (by omega) (hk _ (by omega)) (by omega) (by omega) (by omega) (by omega),zat (hw 0 (by omega)) (by omega),zat (hw 1 (by omega)) (by omega),zat (hw 2 (by omega)) (by omega)];simp
theorem zns {m:Nat}{t:Tr}(h:wfT ((m+1:Nat):Int) t)(x y:Int):zax t x y=zae t (x+p2 m) (y+p2 m):=by
 cases t with
 | e=>rfl
 | s k =>
  have:=h.1;omega
 | n v a b c d =>
  have e:(((m+1:Nat)):Int)=v:=h.1;subst e;show zae _ _ _=_;rw[show(Tr.n ((m+1:Nat):Int) a b c d).lv.toNat-1=m from by show(((m+1:Nat)):Int).toNat-1=m;omega]
end Go.Proofs.YtbabbmdpgpcgjaaGreatDoor

namespace Go.Proofs.YtbabbmdpgpcgjaaGreatDoor
open Go.RowKit Num Nds
def getQ (q:List Nd)(X Y:Int):Int:=zax (den q q.length) X Y
theorem zqG {q:List Nd}(hq:zai q=true){m:Nat}(hl:zaO q=(m:Int)+1):∃p,q.length=p+1∧(at_ q p).lv=(m:Int)+1∧wfT ((m+1:Nat):Int) (den q (p+1)):=by
 unfold zaO at hl;by_cases h0:q=[]
 ·rw[if_pos h0] at hl;omega
 ·rw[if_neg h0] at hl;have h1:=List.length_pos_iff.2 h0;refine⟨q.length-1,by omega,hl,?_⟩;have h2:=zbY hq (q.length-1) (by omega)
  rwa [hl,show(m:Int)+1=((m+1:Nat):Int) by omega] at h2
theorem ztB {q:List Nd}(hq:zai q=true){X Y:Int}(h:zaO q<((max (rcI X) (rcI Y):Nat):Int)+1):getQ q X Y=0:=by
 unfold getQ;by_cases h0:q=[]
 ·subst h0;show zax (den [] 0) X Y=0;rw[zbd];rfl
 ·have hlv:1≤zaO q:=by
   unfold zaO;rw[if_neg h0];have h1:=List.length_pos_iff.2 h0;exact(zaH (zaq hq (i:=q.length-1) (by omega))).1
  obtain⟨m,hm⟩:∃m:Nat,zaO q=(m:Int)+1:=⟨(zaO q-1).toNat,by omega⟩;obtain⟨p,hp,-,hw⟩:=zqG hq hm;rw[hp,zns hw];refine zat hw fun hin=>?_;have ep:=zap m;have h1:rcI X≤m:=(zkv X m).2 (by omega);have h2:rcI Y≤m:=(zkv Y m).2 (by omega);omega
theorem zwh {q:List Nd}(hq:zai q=true){m:Nat}(hl:zaO q=(m:Int)+1){X Y:Int}(hX : -p2 m≤X∧X<p2 m)(hY : -p2 m≤Y∧Y<p2 m)(hm:m≤1328):getQ q X Y=getF (m+1) q (q.length:Int) (X+p2 m) (Y+p2 m)∧kidB q (((m+1:Nat):Int)+1) (q.length:Int)=true:=by
 obtain⟨p,hp,hlv,hw⟩:=zqG hq hl;have ep:=zap m;have hne:(((m+1:Nat)):Int)+1≠1:=by omega
 have hk:kidB q (((m+1:Nat):Int)+1) (q.length:Int)=true:=by
  rw[hp,show(((p+1:Nat)):Int)=(p:Int)+1 by omega,zlu _ _ _ hne (by omega)];exact decide_eq_true (by rw[hlv];omega)
 refine⟨?_,hk⟩;rw[zeZ hq (m:=m+1) (by omega) hk (by omega) (by omega) (by omega) (by omega),zaY hne,Int.toNat_natCast];unfold getQ;rw[hp,zns hw]
theorem zqH (m:Nat)(q:List Nd)(x y:Int):getF m q 0 x y=0:=by
 cases m with
 | zero=>rfl
 | succ m=>unfold getF;rw[if_pos rfl]
theorem zkw {q:List Nd}(hq:zai q=true)(X Y:Int):0≤getQ q X Y∧getQ q X Y≤255:=by
 have key:∀(t:Tr) (n:Nat) (x y:Int),wfT (n:Int) t→0≤zae t x y∧zae t x y≤255:=by
  intro t
  induction t with
  | e=>intro n x y _;exact⟨Int.le_refl 0,by show(0:Int)≤255;omega⟩
  | s k =>
   intro n x y h;show 0≤(if x=0∧y=0 then k else 0)∧(if x=0∧y=0 then k else 0)≤255;have:=h.2;split <;> omega
  | n v a b c d iha ihb ihc ihd =>
   intro n x y h;obtain⟨m,rfl,rfl,ha,hb,hc,hd,_⟩:=wf_n h;show 0≤zae (.n _ a b c d) x y∧_;unfold zae;split <;> split
   ·exact iha m _ _ ha
   ·exact ihc m _ _ hc
   ·exact ihb m _ _ hb
   ·exact ihd m _ _ hd
 unfold getQ;obtain⟨v,hv⟩:=zlN hq (Nat.le_refl q.length);have hw:∃n:Nat,wfT (n:Int) (den q q.length):=by
  generalize den q q.length=t at hv;cases t with
  | e=>exact⟨0,trivial⟩
  | s k=>exact⟨0,by rw[show((0:Nat):Int)=v from hv.1.symm];exact hv⟩
  | n u a b c d =>
   have h1:=hv.1;have h2:=hv.2.1;exact⟨v.toNat,by rwa [show((v.toNat:Nat):Int)=v by omega]⟩
 obtain⟨n,hn⟩:=hw;exact key _ n _ _ hn
end Go.Proofs.YtbabbmdpgpcgjaaGreatDoor
