import Derived.Test.YtikehjindobpkaaGreatGClRd

set_option linter.unusedVariables false
set_option linter.unusedSimpArgs false
set_option maxRecDepth 100000
set_option maxHeartbeats 6400000
namespace Go.Proofs.YtikehjindobpkaaGreat
open Go.RowKit Nds Num
theorem zcX (A:Option Addr)(c n:Nat)(l:List Nd)(w:World)(h:Ns w A c l)(hn:l.length=n) :
  Calls Tryz.prog 42 #[.agg #[.slice A n c]] w fun e w'=>e=.returned (.int .i64 (zaV l))∧Below w.heap.size w w':=by
 have hcap:=h.cap;rw[hn] at hcap;have HB:=Hh ((Below.refl w.heap.size w).alloc (Nat.le_refl _) (.cells #[.slice A n c] 26));by_cases h0:n=0
 ·have hr:zaV l=0:=by
   unfold zaV;rw[if_pos (List.eq_nil_of_length_eq_zero (hn.trans h0))]
  rw[hr];have t1:((n:Int)==0)=true:=by rw[h0];rfl
  clear h0 hn hr h;go_enter Tryz.func42,Tryz.ntmps42;go_wp2_with fail;go_ret;exact⟨rfl,HB.out⟩
 ·obtain⟨b,off,rfl,hb,hc⟩:=h.at_ (by omega)
  obtain⟨p,rfl⟩:∃p,n=p+1:=⟨n-1,by omega⟩;have c1:=(hc p (by omega)).1;have hr:zaV l=(at_ l p).lv:=by
   unfold zaV;rw[if_neg (fun e=>by rw[e] at hn;cases hn),hn];rfl
  rw[hr];generalize (at_ l p).lv=u at *;have t1:(((p+1:Nat):Int)==0)=false:=beq_eq_false_iff_ne.2 (by omega);have t2:((p:Int)+1==0)=false:=beq_eq_false_iff_ne.2 (by omega);have i1:(p:Int)<(p:Int)+1:=by omega
  clear h0 hn hr h hc;go_enter Tryz.func42,Tryz.ntmps42;go_wp2_with fail;go_ret;exact⟨rfl,HB.out⟩
end Go.Proofs.YtikehjindobpkaaGreat

namespace Go.Proofs.YtikehjindobpkaaGreat
open Nds
theorem zpG {l:List Nd}(hl:zad l=true):∀{m:Nat} {k:Int},kidB l ((m:Int)+1) k=true→wfT (m:Int) (kidT (dens l) ((m:Int)+1) k)
 | 0,k,hk=>by
  have h:kidB l 1 k=true:=hk;rw[zez,decide_eq_true_iff] at h;exact zuY h
 | m+1,k,hk=>by
  have hne:(((m+1:Nat)):Int)+1≠1:=by omega
  rcases zaO hne hk with rfl|⟨p,rfl,hp,hlv⟩
  ·rw[zcu];trivial
  ·rw[zaF hne,show((p:Int)+1).toNat=p+1 by omega];have h:=zbK hl p hp
   rwa [hlv,show(((m+1:Nat)):Int)+1-1=((m+1:Nat):Int) by omega] at h
theorem zat {t:Tr}{n:Nat}{x y:Int}(hw:wfT (n:Int) t)(h:¬ (0≤x∧x<p2 n∧0≤y∧y<p2 n)):zag t x y=0 :=
 Classical.byContradiction fun h2=>h (zas t n x y hw h2)
def qtI (h x y:Int):Nat:=(if x<h then 0 else 1)+(if y<h then 0 else 2)
def subI (h x:Int):Int:=if x<h then x else x-h
theorem zpH (h x y:Int):qtI h x y<4:=by
 unfold qtI;split <;> split <;> omega
def zha (m:Nat)(l:List Nd)(n:Int):Nd:=if n=0 then ⟨(m:Int)+1,0,0,0,0⟩ else at_ l (n-1).toNat
theorem zmj {l:List Nd}(hl:zad l=true){m:Nat}(hm:m≤1328){n:Int}(hn:kidB l (((m+1:Nat))+1:Int) n=true):fitB l (zha m l n)=true∧(zha m l n).lv=(m:Int)+1∧kidT (dens l) (((m+1:Nat))+1:Int) n=norm (dens l) (zha m l n):=by
 have hne:(((m+1:Nat)):Int)+1≠1:=by omega
 unfold zha;rcases zaO hne hn with rfl|⟨p,rfl,hp,hlv⟩
 ·rw[if_pos rfl,zcu];have hk:∀v:Int,1≤v→kidB l v 0=true:=fun v hv=>by
   by_cases h1:v=1
   ·rw[h1,zez];rfl
   ·exact zeA _ _ h1
  refine⟨?_,rfl,?_⟩
  ·unfold fitB Nd.each;rw[decide_eq_true (show 1≤(m:Int)+1∧(m:Int)+1≤1329 by omega)];show(true&&(kidB l ((m:Int)+1) 0&&kidB l ((m:Int)+1) 0&&kidB l ((m:Int)+1) 0&&kidB l ((m:Int)+1) 0))=true;rw[hk _ (by omega)];rfl
  ·show _=mk _ (kidT (dens l) ((m:Int)+1) 0) (kidT (dens l) ((m:Int)+1) 0) (kidT (dens l) ((m:Int)+1) 0) (kidT (dens l) ((m:Int)+1) 0);rw[zcu];rfl
 ·rw[if_neg (by omega),show((p:Int)+1-1).toNat=p by omega];refine⟨zai hl hp,by omega,?_⟩;rw[zaF hne,show((p:Int)+1).toNat=p+1 by omega,zax hl hp]
theorem ziO {l:List Nd}{x:Nd}{m:Nat}(h:x.lv=(m:Int)+1):norm (dens l) x=mk ((m:Int)+1) (kidT (dens l) ((m:Int)+1) (x.kid 0)) (kidT (dens l) ((m:Int)+1) (x.kid 1)) (kidT (dens l) ((m:Int)+1) (x.kid 2)) (kidT (dens l) ((m:Int)+1) (x.kid 3)):=by
 unfold norm;rw[h];rfl
def getF:Nat→List Nd→Int→Int→Int→Int
 | 0,_,n,_,_=>n
 | m+1,l,n,x,y=>if n=0 then 0 else getF m l ((zha m l n).kid (qtI (p2 m) x y)) (subI (p2 m) x) (subI (p2 m) y)
theorem zeY {l:List Nd}(hl:zad l=true):∀{m:Nat} {n x y:Int},m≤1329→kidB l ((m:Int)+1) n=true→0≤x→x<p2 m→0≤y→y<p2 m→getF m l n x y=zag (kidT (dens l) ((m:Int)+1) n) x y
 | 0,n,x,y,_,hn,hx0,hx,hy0,hy=>by
  rw[zdx] at hx hy;obtain rfl:x=0:=by omega
  obtain rfl:y=0:=by omega
  show n=zag (st n) 0 0;unfold st;split
  ·rename_i h;rw[h];rfl
  ·rfl
 | m+1,n,x,y,hm,hn,hx0,hx,hy0,hy=>by
  obtain⟨h1,h2,h3⟩:=zmj hl (by omega) hn;have hw:∀i,i<4→wfT (m:Int) (kidT (dens l) ((m:Int)+1) ((zha m l n).kid i)):=fun i hi=>zpG hl (by have:=zan h1 hi;rwa [h2] at this);have hk:∀i,i<4→kidB l ((m:Int)+1) ((zha m l n).kid i)=true:=fun i hi=>by have:=zan h1 hi;rwa [h2] at this
  have hp:=zal m;have hp1:=zam m;unfold getF;rw[h3,ziO h2,zde (hw 0 (by omega)) (hw 1 (by omega)) (hw 2 (by omega)) (hw 3 (by omega))];by_cases hn0:n=0
  ·rw[if_pos hn0];have e:zha m l n=⟨(m:Int)+1,0,0,0,0⟩:=by unfold zha;rw[if_pos hn0]
   rw[e];show(0:Int)=zag (kidT (dens l) _ 0) _ _+zag (kidT (dens l) _ 0) _ _+zag (kidT (dens l) _ 0) _ _+zag (kidT (dens l) _ 0) _ _;rw[zcu];rfl
  ·rw[if_neg hn0];unfold qtI subI;by_cases hx1:x<p2 m
   ·by_cases hy1:y<p2 m
    ·simp only[hx1,hy1,if_true];rw[zeY hl (by omega) (hk _ (by omega)) hx0 hx1 hy0 hy1,zat (hw 1 (by omega)) (by omega),zat (hw 2 (by omega)) (by omega),zat (hw 3 (by omega)) (by omega)];simp
    ·simp only[hx1,hy1,if_true,if_false];rw[zeY hl (by omega) (hk _ (by omega)) hx0 hx1 (by omega) (by omega),zat (hw 0 (by omega)) (by omega),zat (hw 1 (by omega)) (by omega),zat (hw 3 (by omega)) (by omega)];simp
   ·by_cases hy1:y<p2 m
    ·simp only[hx1,hy1,if_true,if_false];rw[zeY hl (by omega) (hk _ (by omega)) (by omega) (by omega) hy0 hy1,zat (hw 0 (by omega)) (by omega),zat (hw 2 (by omega)) (by omega),zat (hw 3 (by omega)) (by omega)];simp
    ·simp only[hx1,hy1,if_false];rw[zeY hl (by omega) (hk _ (by omega)) (by omega) (by omega) (by omega) (by omega),zat (hw 0 (by omega)) (by omega),zat (hw 1 (by omega)) (by omega),zat (hw 2 (by omega)) (by omega)];simp
theorem zmk {m:Nat}{t:Tr}(h:wfT ((m+1:Nat):Int) t)(x y:Int):zaH t x y=zag t (x+p2 m) (y+p2 m):=by
 cases t with
 | e=>rfl
 | s k =>
  have:=h.1;omega
 | n v a b c d =>
  have e:(((m+1:Nat)):Int)=v:=h.1;subst e;show zag _ _ _=_;rw[show(Tr.n ((m+1:Nat):Int) a b c d).lv.toNat-1=m from by show(((m+1:Nat)):Int).toNat-1=m;omega]
end Go.Proofs.YtikehjindobpkaaGreat

namespace Go.Proofs.YtikehjindobpkaaGreat
open Go.RowKit Num Nds
theorem zrS (n k:Nat):blen n≤k↔n<2^k:=by
 constructor
 ·intro h;exact Nat.lt_of_lt_of_le (zgp n) (Nat.pow_le_pow_right (by decide) h)
 ·intro h;by_cases h0:n=0
  ·subst h0;exact Nat.zero_le _
  ·have h1:=zgq h0;rcases Nat.lt_or_ge k (blen n) with h2|h2
   ·have h3:2^k≤2^(blen n-1):=Nat.pow_le_pow_right (by decide) (by omega);omega
   ·exact h2
def rcI (n:Int):Nat:=blen (if n<0 then -1-n else n).toNat
theorem zkU (k:Nat):p2 k=((2^k:Nat):Int):=by
 unfold p2;rw[Int.natCast_pow];rfl
theorem zjH (n:Int)(k:Nat):rcI n≤k↔-p2 k≤n∧n<p2 k:=by
 unfold rcI;rw[zrS,zkU];split <;> omega
theorem zak {V:World}{g:Nat}{s:Bool}{A:Option Addr}{n c:Nat}(h:V.heap[g]?=some (.cells #[.bool s,.slice A n c] 31)):V.cell? ⟨g,0,none⟩=some (.bool s)∧V.cell? ⟨g,1,none⟩=some (.slice A n c) :=
 ⟨by rw[cell_of_row _ _ _ _ _ (0,0) h];rfl,by rw[cell_of_row _ _ _ _ _ (0,0) h];rfl⟩
def getQ (q:List Nd)(X Y:Int):Int:=zaH (den q q.length) X Y
theorem zpI {q:List Nd}(hq:zad q=true){m:Nat}(hl:zaV q=(m:Int)+1):∃p,q.length=p+1∧(at_ q p).lv=(m:Int)+1∧wfT ((m+1:Nat):Int) (den q (p+1)):=by
 unfold zaV at hl;by_cases h0:q=[]
 ·rw[if_pos h0] at hl;omega
 ·rw[if_neg h0] at hl;have h1:=List.length_pos_iff.2 h0;refine⟨q.length-1,by omega,hl,?_⟩;have h2:=zbK hq (q.length-1) (by omega)
  rwa [hl,show(m:Int)+1=((m+1:Nat):Int) by omega] at h2
theorem zrT {q:List Nd}(hq:zad q=true){X Y:Int}(h:zaV q<((max (rcI X) (rcI Y):Nat):Int)+1):getQ q X Y=0:=by
 unfold getQ;by_cases h0:q=[]
 ·subst h0;show zaH (den [] 0) X Y=0;rw[zaw];rfl
 ·have hlv:1≤zaV q:=by
   unfold zaV;rw[if_neg h0];have h1:=List.length_pos_iff.2 h0;exact(zaJ (zai hq (i:=q.length-1) (by omega))).1
  obtain⟨m,hm⟩:∃m:Nat,zaV q=(m:Int)+1:=⟨(zaV q-1).toNat,by omega⟩;obtain⟨p,hp,-,hw⟩:=zpI hq hm;rw[hp,zmk hw];refine zat hw fun hin=>?_;have ep:=zal m;have h1:rcI X≤m:=(zjH X m).2 (by omega);have h2:rcI Y≤m:=(zjH Y m).2 (by omega);omega
theorem zuq {q:List Nd}(hq:zad q=true){m:Nat}(hl:zaV q=(m:Int)+1){X Y:Int}(hX : -p2 m≤X∧X<p2 m)(hY : -p2 m≤Y∧Y<p2 m)(hm:m≤1328):getQ q X Y=getF (m+1) q (q.length:Int) (X+p2 m) (Y+p2 m)∧kidB q (((m+1:Nat):Int)+1) (q.length:Int)=true:=by
 obtain⟨p,hp,hlv,hw⟩:=zpI hq hl;have ep:=zal m;have hne:(((m+1:Nat)):Int)+1≠1:=by omega
 have hk:kidB q (((m+1:Nat):Int)+1) (q.length:Int)=true:=by
  rw[hp,show(((p+1:Nat)):Int)=(p:Int)+1 by omega,zgr _ _ _ hne (by omega)];exact decide_eq_true (by rw[hlv];omega)
 refine⟨?_,hk⟩;rw[zeY hq (m:=m+1) (by omega) hk (by omega) (by omega) (by omega) (by omega),zaF hne,Int.toNat_natCast];unfold getQ;rw[hp,zmk hw]
theorem zpJ (m:Nat)(q:List Nd)(x y:Int):getF m q 0 x y=0:=by
 cases m with
 | zero=>rfl
 | succ m=>unfold getF;rw[if_pos rfl]
theorem zjI {q:List Nd}(hq:zad q=true)(X Y:Int):0≤getQ q X Y∧getQ q X Y≤255:=by
 have key:∀(t:Tr) (n:Nat) (x y:Int),wfT (n:Int) t→0≤zag t x y∧zag t x y≤255:=by
  intro t
  induction t with
  | e=>intro n x y _;exact⟨Int.le_refl 0,by show(0:Int)≤255;omega⟩
  | s k =>
   intro n x y h;show 0≤(if x=0∧y=0 then k else 0)∧(if x=0∧y=0 then k else 0)≤255;have:=h.2;split <;> omega
  | n v a b c d iha ihb ihc ihd =>
   intro n x y h;obtain⟨m,rfl,rfl,ha,hb,hc,hd,_⟩:=wf_n h;show 0≤zag (.n _ a b c d) x y∧_;unfold zag;split <;> split
   ·exact iha m _ _ ha
   ·exact ihc m _ _ hc
   ·exact ihb m _ _ hb
   ·exact ihd m _ _ hd
 unfold getQ;obtain⟨v,hv⟩:=zkx hq (Nat.le_refl q.length);have hw:∃n:Nat,wfT (n:Int) (den q q.length):=by
  generalize den q q.length=t at hv;cases t with
  | e=>exact⟨0,trivial⟩
  | s k=>exact⟨0,by rw[show((0:Nat):Int)=v from hv.1.symm];exact hv⟩
  | n u a b c d =>
   have h1:=hv.1;have h2:=hv.2.1;exact⟨v.toNat,by rwa [show((v.toNat:Nat):Int)=v by omega]⟩
 obtain⟨n,hn⟩:=hw;exact key _ n _ _ hn
theorem znn {q:List Nd}(hq:zad q=true):0≤zaV q∧zaV q≤1329:=by
 unfold zaV;by_cases h0:q=[]
 ·rw[if_pos h0];omega
 ·rw[if_neg h0];have h1:=List.length_pos_iff.2 h0;have h2:=zaJ (zai hq (i:=q.length-1) (by omega));omega
end Go.Proofs.YtikehjindobpkaaGreat
