import Derived.Test.YtbabbmdpgpcgjaaGreatDoorHNcE

set_option linter.unusedVariables false
set_option linter.unusedSimpArgs false
set_option maxRecDepth 100000
set_option maxHeartbeats 6400000
namespace Go.Proofs.YtbabbmdpgpcgjaaGreatDoor
open Nds
theorem zoi {l:List Nd}{y:Nd}(hf:fitB l y=true):zeu ((dens l).map Tr.isE) y=(norm (dens l) y).isE:=by
 have hv:=zaH hf;rw[ztf];unfold zeu;refine zdX fun i hi=>?_;have hk:=zav hf hi;by_cases h1:y.lv=1
 ·rw[h1,zdh];unfold st;by_cases h0:y.kid i=0
  ·rw[h0];rfl
  ·rw[if_neg h0,beq_eq_false_iff_ne.2 h0];rfl
 ·rw[zaY h1,decide_eq_true (show 1<y.lv by omega),Bool.true_and];rcases zbc h1 hk with e|⟨p,e,hp,_⟩
  ·rw[e,show(0:Int).toNat=0 from rfl,zbd];rfl
  ·rw[e,beq_eq_false_iff_ne.2 (show(p:Int)+1≠0 by omega),Bool.false_or,show((p:Int)+1).toNat=p+1 by omega];unfold den;have hlt:p+1<(dens l).length:=by rw[zdg];omega
   rw[List.getD_eq_getElem?_getD,List.getD_eq_getElem?_getD,List.getElem?_map,List.getElem?_eq_getElem hlt];rfl
theorem zqe {l:List Nd}(h:zai l=true):emps l=(dens l).map Tr.isE:=by
 suffices hk:∀k,k≤l.length→emps (l.take k)=(dens (l.take k)).map Tr.isE by
  have:=hk l.length (Nat.le_refl _)
  rwa [List.take_of_length_le (Nat.le_refl _)] at this
 intro k
 induction k with
 | zero=>intro _;rfl
 | succ k ih =>
  intro hk;rw[zdb (by omega),zdz,zdA,ih (by omega),List.map_append,zoi (zan.1 h k (by omega))];rfl
theorem ztk {l:List Nd}(h:zai l=true){n:Nat}(hn:n≤l.length):empB l n=(den l n).isE:=by
 unfold empB den;have hlt:n<(dens l).length:=by rw[zdg];omega
 rw[zqe h,List.getD_eq_getElem?_getD,List.getD_eq_getElem?_getD,List.getElem?_map,List.getElem?_eq_getElem hlt];rfl
def OfL (l:List Nd)(n:Nat):List Nd:=(enc (shrT (den l n)) []).1
theorem zlN {l:List Nd}(h:zai l=true){n:Nat}(hn:n≤l.length):∃v,wfT v (den l n):=by
 cases n with
 | zero=>rw[zbd];exact⟨0,trivial⟩
 | succ p=>exact⟨_,zbY h p (by omega)⟩
theorem zko {l:List Nd}{n:Nat}{k:Int}:den l n≠.s k:=by
 intro e;rcases znc l n with h|⟨v,a,b,c,d,h⟩
 ·rw[h] at e;cases e
 ·rw[h] at e;cases e
theorem zni {v:Int}{t:Tr}(hw:wfT v t)(hne:t≠.e)(hs:∀k,t≠.s k):(enc t []).2=((enc t []).1.length:Int)∧0<(enc t []).1.length∧den (enc t []).1 (enc t []).1.length=t:=by
 have hsp:=zce t v [] hw zdZ;cases t with
 | e=>exact absurd rfl hne
 | s k=>exact absurd rfl (hs k)
 | n u a b c d =>
  have hend:=zwa (L:=(enc (.n u a b c d) []).1) (.n u a b c d) v [] 1329 hw zdZ (List.prefix_refl _) (by obtain⟨rfl,_,h,_⟩:=hw;exact h) (by simp) (by simp);obtain⟨h1,h2,h3⟩:=hsp.num
  -- the root comes last: its number is the greatest
  have hv:v=u:=hw.1;subst hv;rw[zog] at h1 h2 h3 ⊢;have h4:=zgW (v:=v-1) (f:=(Tr.n v a b c d).q) zdZ (fun i hi o ho=>zce _ (v-1) o (wf_q hw i) ho) 4 (Nat.le_refl _);obtain⟨o4,ho4⟩:∃o4,o4=outK (Tr.n v a b c d).q [] 4:=⟨_,rfl⟩;obtain⟨x,hx⟩:∃x,x=topN (Tr.n v a b c d).q [] v:=⟨_,rfl⟩;have hxv:x.lv=v:=by rw[hx];rfl
  rw[←ho4,←hx] at h1 h2 h3 ⊢;rcases zeO o4 x with⟨e,hf⟩|⟨i,hi,he,e⟩
  ·have hadd:add o4 x=(o4++[x],o4.length+1):=by
    unfold add;rw[if_pos e]
   rw[hadd] at h1 h2 h3 ⊢;simp only[Int.toNat_natCast] at h3;refine⟨by simp,by simp,?_⟩;simp only[List.length_append,List.length_cons,List.length_nil];exact h3
  ·exfalso;have:=h4.lvs i (Nat.zero_le _) (by rw[←ho4];exact hi);rw[←ho4,he,hxv] at this;omega
theorem zqf {v:Int}{t:Tr}(hw:wfT v t)(hs:∀k,t≠.s k):∀k,shrT t≠.s k:=by
 by_cases hh:holT t=true
 ·intro k e
  -- what is left is a node or nothing
  have key:∀(m:Nat) (t:Tr),(∀k,t≠.s k)→∀k,shrF m t≠.s k:=by
   intro m
   induction m with
   | zero=>exact fun t h=>h
   | succ m ih =>
    intro t h;unfold shrF;split
    ·refine ih _ fun k e=>?_;unfold innT mk at e;split at e <;> cases e
    ·exact h
  exact key _ t hs k e
 ·rw[zeN (by simpa using hh)];exact hs
theorem ztl {l:List Nd}(h:zai l=true){n:Nat}(hn:n≤l.length):∃v,wfT v (shrT (den l n))∧(∀k,shrT (den l n)≠.s k)∧holT (shrT (den l n))=false:=by
 obtain⟨v,hw⟩:=zlN h hn;obtain⟨u,hu⟩:=zxF hw;exact⟨u,hu,zqf hw (fun k=>zko),zti hw⟩
theorem zea {f g:Nat→Tr}{out:List Nd}:∀k,(∀i,i<k→f i=g i)→outK f out k=outK g out k
 | 0,_=>rfl
 | k+1,h=>by
  show(enc (f k) (outK f out k)).1=(enc (g k) (outK g out k)).1;rw[zea k fun i hi=>h i (by omega),h k (by omega)]
theorem zeb {f g:Nat→Tr}{out:List Nd}{k:Nat}(h:∀i,i≤k→f i=g i):numK f out k=numK g out k:=by
 unfold numK;rw[zea k fun i hi=>h i (by omega),h k (Nat.le_refl _)]
theorem zik {f g:Nat→Tr}{out:List Nd}{v:Int}(h:∀i,i<4→f i=g i):topN f out v=topN g out v:=by
 unfold topN;rw[zeb (k:=0) fun i hi=>h i (by omega),zeb (k:=1) fun i hi=>h i (by omega),zeb (k:=2) fun i hi=>h i (by omega),zeb (k:=3) fun i hi=>h i (by omega)]
theorem zeP (l:List Nd)(v:Int):kidT (dens l) v 0=.e:=by
 unfold kidT;split
 ·rfl
 ·exact zbd l
theorem zgg {l:List Nd}{v k:Int}(h:kidB l v k=true)(hl:l.length≤1000000):in64 k:=by
 by_cases hv:v=1
 ·subst hv;rw[kidB,if_pos rfl,decide_eq_true_iff] at h;exact⟨by omega,by omega⟩
 ·rcases zbc hv h with rfl|⟨m,rfl,hm,_⟩
  ·exact⟨by omega,by omega⟩
  ·exact⟨by omega,by omega⟩
theorem zxG {l:List Nd}{x:Nd}(h:fitB l x=true)(hl:l.length≤1000000):x.wf:=by
 have hv:=zaH h;exact⟨⟨by omega,by omega⟩,zgg (zav h (i:=0) (by omega)) hl,zgg (zav h (i:=1) (by omega)) hl,zgg (zav h (i:=2) (by omega)) hl,zgg (zav h (i:=3) (by omega)) hl⟩
def Bar (l:List Nd):Prop:=∀i,i<l.length→∀j,j<4→kidT (dens l) (at_ l i).lv ((at_ l i).kid j)=.e→(at_ l i).kid j=0
def Like (l m:List Nd):Prop:=l.length=m.length∧dens l=dens m∧(∀i,i<l.length→(at_ l i).lv=(at_ m i).lv)
end Go.Proofs.YtbabbmdpgpcgjaaGreatDoor

namespace Go.Proofs.YtbabbmdpgpcgjaaGreatDoor.Nds
def p2 (n:Nat):Int:=(2:Int)^n
theorem zft:p2 0=1:=rfl
theorem zap (n:Nat):p2 (n+1)=p2 n+p2 n:=by
 unfold p2;rw[Int.pow_succ];omega
theorem zaz:∀n,1≤p2 n
 | 0=>Int.le_refl 1
 | n+1=>by
  have:=zaz n;rw[zap];omega
theorem zaw {m n:Nat}(h:m≤n):p2 m≤p2 n:=by
 induction n with
 | zero=>rw[show m=0 by omega];exact Int.le_refl _
 | succ n ih =>
  rcases Nat.lt_or_ge m (n+1) with h1|h1
  ·have h2:=ih (by omega);have h3:=zaz n;rw[zap];omega
  ·rw[show m=n+1 by omega];exact Int.le_refl _
def zae:Tr→Int→Int→Int
 | .e,_,_=>0
 | .s k,x,y=>if x=0∧y=0 then k else 0
 | .n v a b c d,x,y =>
  if x<p2 (v.toNat-1) then (if y<p2 (v.toNat-1) then zae a x y else zae c x (y-p2 (v.toNat-1)))
  else (if y<p2 (v.toNat-1) then zae b (x-p2 (v.toNat-1)) y else zae d (x-p2 (v.toNat-1)) (y-p2 (v.toNat-1)))
theorem zbE (x y:Int):zae .e x y=0:=rfl
theorem zar:∀(t:Tr) (n:Nat) (x y:Int),wfT (n:Int) t→zae t x y≠0→0≤x∧x<p2 n∧0≤y∧y<p2 n
 | .e,_,_,_,_,h=>absurd rfl h
 | .s k,n,x,y,hw,h=>by
  unfold zae at h;have hn:(n:Int)=0:=hw.1;have:n=0:=by omega
  subst this;split at h
  ·rename_i hxy;rw[zft];omega
  ·exact absurd rfl h
 | .n v a b c d,n,x,y,hw,h=>by
  obtain⟨hv,h1,h2,ha,hb,hc,hd,_⟩:=hw;subst hv;obtain⟨m,rfl⟩:∃m,n=m+1:=⟨n-1,by omega⟩;rw[show(((m+1:Nat):Int)-1)=(m:Int) by omega] at ha hb hc hd;have e:(((m+1:Nat):Int).toNat-1)=m:=by omega
  unfold zae at h;rw[e] at h;have hp:=zaz m;rw[zap];split at h
  ·split at h
   ·have:=zar a m x y ha h;omega
   ·have:=zar c m _ _ hc h;omega
  ·split at h
   ·have:=zar b m _ _ hb h;omega
   ·have:=zar d m _ _ hd h;omega
theorem zcq {m:Nat}{a b c d:Tr}(ha:wfT (m:Int) a)(hb:wfT (m:Int) b)(hc:wfT (m:Int) c)(hd:wfT (m:Int) d)(x y:Int) :
    zae (.n ((m:Int)+1) a b c d) x y=zae a x y+zae b (x-p2 m) y+zae c x (y-p2 m)+zae d (x-p2 m) (y-p2 m):=by
  have e:(((m:Int)+1).toNat-1)=m:=by omega
  have hp:=zaz m;have za:¬ (0≤x∧x<p2 m∧0≤y∧y<p2 m)→zae a x y=0:=fun h=>Classical.byContradiction fun h2=>h (zar a m x y ha h2);have zb:¬ (0≤x-p2 m∧x-p2 m<p2 m∧0≤y∧y<p2 m)→zae b (x-p2 m) y=0:=fun h=>Classical.byContradiction fun h2=>h (zar b m _ _ hb h2);have zc:¬ (0≤x∧x<p2 m∧0≤y-p2 m∧y-p2 m<p2 m)→zae c x (y-p2 m)=0:=fun h=>Classical.byContradiction fun h2=>h (zar c m _ _ hc h2);have zd:¬ (0≤x-p2 m∧x-p2 m<p2 m∧0≤y-p2 m∧y-p2 m<p2 m)→zae d (x-p2 m) (y-p2 m)=0:=fun h=>Classical.byContradiction fun h2=>h (zar d m _ _ hd h2);show(if x<p2 (((m:Int)+1).toNat-1) then (if y<p2 (((m:Int)+1).toNat-1) then zae a x y else zae c x (y-p2 (((m:Int)+1).toNat-1)))
    else (if y<p2 (((m:Int)+1).toNat-1) then zae b (x-p2 (((m:Int)+1).toNat-1)) y else zae d (x-p2 (((m:Int)+1).toNat-1)) (y-p2 (((m:Int)+1).toNat-1))))=_
  rw[e];split
  · split
    · rw[zb (by omega),zc (by omega),zd (by omega)]
      omega
    · rw[za (by omega),zb (by omega),zd (by omega)]
      omega
  · split
    · rw[za (by omega),zc (by omega),zd (by omega)]
      omega
    · rw[za (by omega),zb (by omega),zc (by omega)]
      omega
theorem wf_n {n:Nat}{v:Int}{a b c d:Tr}(hw:wfT (n:Int) (.n v a b c d)):∃m:Nat,n=m+1∧v=(m:Int)+1∧wfT (m:Int) a∧wfT (m:Int) b∧wfT (m:Int) c∧wfT (m:Int) d∧(n:Int)≤1329:=by
 obtain⟨hv,h1,h2,ha,hb,hc,hd,_⟩:=hw;refine⟨n-1,by omega,by omega,?_⟩;have e:((n-1:Nat):Int)=v-1:=by omega
 rw[e];exact⟨ha,hb,hc,hd,by omega⟩
theorem zbb:∀(t:Tr) (n:Nat),wfT (n:Int) t→t≠.e→∃x y,zae t x y≠0
 | .e,_,_,h=>absurd rfl h
 | .s k,n,hw,_=>⟨0,0,by
  have h1:zae (.s k) 0 0=k:=rfl;rw[h1];have:=hw.2.1;omega⟩
 | .n v a b c d,n,hw,_=>by
  obtain⟨m,rfl,rfl,ha,hb,hc,hd,_⟩:=wf_n hw;obtain⟨i,hi,hne⟩:=znd hw;have hp:=zaz m;have out:∀{t:Tr} {x y:Int},wfT (m:Int) t→¬ (0≤x∧x<p2 m∧0≤y∧y<p2 m)→zae t x y=0:=fun hw h=>Classical.byContradiction fun h2=>h (zar _ m _ _ hw h2)
  match i,hi with
  | 0,_ =>
   obtain⟨x,y,h⟩:=zbb a m ha hne;have hr:=zar a m x y ha h;refine⟨x,y,?_⟩;rw[zcq ha hb hc hd,out hb (by omega),out hc (by omega),out hd (by omega)];omega
  | 1,_ =>
   obtain⟨x,y,h⟩:=zbb b m hb hne;have hr:=zar b m x y hb h;refine⟨x+p2 m,y,?_⟩;rw[zcq ha hb hc hd,out ha (by omega),out hc (by omega),out hd (by omega),show x+p2 m-p2 m=x by omega];omega
  | 2,_ =>
   obtain⟨x,y,h⟩:=zbb c m hc hne;have hr:=zar c m x y hc h;refine⟨x,y+p2 m,?_⟩;rw[zcq ha hb hc hd,out ha (by omega),out hb (by omega),out hd (by omega),show y+p2 m-p2 m=y by omega];omega
  | 3,_ =>
   obtain⟨x,y,h⟩:=zbb d m hd hne;have hr:=zar d m x y hd h;refine⟨x+p2 m,y+p2 m,?_⟩;rw[zcq ha hb hc hd,out ha (by omega),out hb (by omega),out hc (by omega),show x+p2 m-p2 m=x by omega,show y+p2 m-p2 m=y by omega];omega
theorem zdB:∀(t u:Tr) (n:Nat),wfT (n:Int) t→wfT (n:Int) u→(∀x y,zae t x y=zae u x y)→t=u
 | .e,u,n,_,hu,h=>by
  refine Classical.byContradiction fun hne=>?_;obtain⟨x,y,h2⟩:=zbb u n hu (fun e=>hne e.symm);exact h2 (h x y).symm
 | .s k,u,n,ht,hu,h=>by
  have hn:(n:Int)=0:=ht.1;have h0:=h 0 0;have h1:zae (.s k) 0 0=k:=rfl;rw[h1] at h0;cases u with
  | e =>
   have:=ht.2.1;rw[zbE] at h0;omega
  | s k2 =>
   have h2:zae (.s k2) 0 0=k2:=rfl;rw[h2] at h0;rw[h0]
  | n v a b c d =>
   have:=hu.1;have:=hu.2.1;omega
 | .n v a b c d,u,n,ht,hu,h=>by
  obtain⟨m,rfl,rfl,ha,hb,hc,hd,_⟩:=wf_n ht;have hp:=zaz m;have out:∀{t:Tr} {x y:Int},wfT (m:Int) t→¬ (0≤x∧x<p2 m∧0≤y∧y<p2 m)→zae t x y=0:=fun hw h=>Classical.byContradiction fun h2=>h (zar _ m _ _ hw h2);cases u with
  | e =>
   obtain⟨x,y,h2⟩:=zbb _ (m+1) ht (by simp);exact absurd (h x y) h2
  | s k2 =>
   have:=hu.1;omega
  | n v2 a2 b2 c2 d2 =>
   obtain⟨m2,hm,rfl,ha2,hb2,hc2,hd2,_⟩:=wf_n hu;have:m=m2:=by omega
   subst this;have h':∀x y,zae a x y+zae b (x-p2 m) y+zae c x (y-p2 m)+zae d (x-p2 m) (y-p2 m)=zae a2 x y+zae b2 (x-p2 m) y+zae c2 x (y-p2 m)+zae d2 (x-p2 m) (y-p2 m):=fun x y=>by
    rw[←zcq ha hb hc hd,←zcq ha2 hb2 hc2 hd2];exact h x y
   have ea:a=a2:=zdB a a2 m ha ha2 fun x y=>by
    by_cases hin:0≤x∧x<p2 m∧0≤y∧y<p2 m
    ·have h3:=h' x y;rw[out hb (by omega),out hc (by omega),out hd (by omega),out hb2 (by omega),out hc2 (by omega),out hd2 (by omega)] at h3;omega
    ·rw[out ha hin,out ha2 hin]
   have eb:b=b2:=zdB b b2 m hb hb2 fun x y=>by
    by_cases hin:0≤x∧x<p2 m∧0≤y∧y<p2 m
    ·have h3:=h' (x+p2 m) y;rw[show x+p2 m-p2 m=x by omega,out ha (by omega),out hc (by omega),out hd (by omega),out ha2 (by omega),out hc2 (by omega),out hd2 (by omega)] at h3;omega
    ·rw[out hb hin,out hb2 hin]
   have ec:c=c2:=zdB c c2 m hc hc2 fun x y=>by
    by_cases hin:0≤x∧x<p2 m∧0≤y∧y<p2 m
    ·have h3:=h' x (y+p2 m);rw[show y+p2 m-p2 m=y by omega,out ha (by omega),out hb (by omega),out hd (by omega),out ha2 (by omega),out hb2 (by omega),out hd2 (by omega)] at h3;omega
    ·rw[out hc hin,out hc2 hin]
   have ed:d=d2:=zdB d d2 m hd hd2 fun x y=>by
    by_cases hin:0≤x∧x<p2 m∧0≤y∧y<p2 m
    ·have h3:=h' (x+p2 m) (y+p2 m);rw[show x+p2 m-p2 m=x by omega,show y+p2 m-p2 m=y by omega,out ha (by omega),out hb (by omega),out hc (by omega),out ha2 (by omega),out hb2 (by omega),out hc2 (by omega)] at h3;omega
    ·rw[out hd hin,out hd2 hin]
   rw[ea,eb,ec,ed]
end Go.Proofs.YtbabbmdpgpcgjaaGreatDoor.Nds

namespace Go.Proofs.YtbabbmdpgpcgjaaGreatDoor.Nds
theorem zdC {m:Nat}{a b c d:Tr}(ha:wfT (m:Int) a)(hb:wfT (m:Int) b)(hc:wfT (m:Int) c)(hd:wfT (m:Int) d)(x y:Int) :
  zae (mk ((m:Int)+1) a b c d) x y=zae a x y+zae b (x-p2 m) y+zae c x (y-p2 m)+zae d (x-p2 m) (y-p2 m):=by
 unfold mk;split
 ·rename_i h;obtain⟨rfl,rfl,rfl,rfl⟩:=zgf.1 h;rfl
 ·exact zcq ha hb hc hd x y
def offX (m i:Nat):Int:=match i with|1=>p2 m|3=>p2 m|_=>0
def offY (m i:Nat):Int:=match i with|2=>p2 m|3=>p2 m|_=>0
theorem zeQ {m:Nat}{t:Tr}(hw:wfT ((m:Int)+1) t){i:Nat}(hi:i<4){x y:Int}(h:zae (t.q i) x y≠0):zae t (x+offX m i) (y+offY m i)=zae (t.q i) x y:=by
 cases t with
 | e=>exact absurd rfl h
 | s k=>exact absurd rfl h
 | n v a b c d =>
  have hw':wfT (((m+1:Nat)):Int) (.n v a b c d):=hw;obtain⟨m',hm,rfl,ha,hb,hc,hd,_⟩:=wf_n hw';have:m=m':=by omega
  subst this;have hp:=zaz m;have out:∀{t:Tr} {x y:Int},wfT (m:Int) t→¬ (0≤x∧x<p2 m∧0≤y∧y<p2 m)→zae t x y=0:=fun hw h=>Classical.byContradiction fun h2=>h (zar _ m _ _ hw h2)
  match i,hi with
  | 0,_ =>
   have hr:=zar a m x y ha h;show zae _ (x+0) (y+0)=zae a x y;rw[Int.add_zero,Int.add_zero,zcq ha hb hc hd,out hb (by omega),out hc (by omega),out hd (by omega)];omega
  | 1,_ =>
   have hr:=zar b m x y hb h;show zae _ (x+p2 m) (y+0)=zae b x y;rw[Int.add_zero,zcq ha hb hc hd,out ha (by omega),out hc (by omega),out hd (by omega),show x+p2 m-p2 m=x by omega];omega
  | 2,_ =>
   have hr:=zar c m x y hc h;show zae _ (x+0) (y+p2 m)=zae c x y;rw[Int.add_zero,zcq ha hb hc hd,out ha (by omega),out hb (by omega),out hd (by omega),show y+p2 m-p2 m=y by omega];omega
  | 3,_ =>
   have hr:=zar d m x y hd h;show zae _ (x+p2 m) (y+p2 m)=zae d x y;rw[zcq ha hb hc hd,out ha (by omega),out hb (by omega),out hc (by omega),show x+p2 m-p2 m=x by omega,show y+p2 m-p2 m=y by omega];omega
def zax (t:Tr)(x y:Int):Int:=zae t (x+p2 (t.lv.toNat-1)) (y+p2 (t.lv.toNat-1))
theorem zgh {m:Nat}{t:Tr}(hw:wfT ((m:Int)+1) t){i:Nat}(hi:i<4)(h:∀j,j<4→j≠i→t.q j=.e)(x y:Int):zae t x y=zae (t.q i) (x-offX m i) (y-offY m i):=by
 cases t with
 | e=>rfl
 | s k =>
  have:=hw.1;omega
 | n v a b c d =>
  have hw':wfT (((m+1:Nat)):Int) (.n v a b c d):=hw;obtain⟨m',hm,rfl,ha,hb,hc,hd,_⟩:=wf_n hw';have:m=m':=by omega
  subst this;rw[zcq ha hb hc hd]
  match i,hi with
  | 0,_ =>
   have h1:b=.e:=h 1 (by omega) (by omega);have h2:c=.e:=h 2 (by omega) (by omega);have h3:d=.e:=h 3 (by omega) (by omega);subst h1 h2 h3;show _=zae a (x-0) (y-0);rw[Int.sub_zero,Int.sub_zero,zbE,zbE,zbE];omega
  | 1,_ =>
   have h1:a=.e:=h 0 (by omega) (by omega);have h2:c=.e:=h 2 (by omega) (by omega);have h3:d=.e:=h 3 (by omega) (by omega);subst h1 h2 h3;show _=zae b (x-p2 m) (y-0);rw[Int.sub_zero,zbE,zbE,zbE];omega
  | 2,_ =>
   have h1:a=.e:=h 0 (by omega) (by omega);have h2:b=.e:=h 1 (by omega) (by omega);have h3:d=.e:=h 3 (by omega) (by omega);subst h1 h2 h3;show _=zae c (x-0) (y-p2 m);rw[Int.sub_zero,zbE,zbE,zbE];omega
  | 3,_ =>
   have h1:a=.e:=h 0 (by omega) (by omega);have h2:b=.e:=h 1 (by omega) (by omega);have h3:c=.e:=h 2 (by omega) (by omega);subst h1 h2 h3;show _=zae d (x-p2 m) (y-p2 m);rw[zbE,zbE,zbE];omega
theorem zkp {n:Nat}{t:Tr}(hw:wfT (n:Int) t)(hh:holT t=true)(x y:Int):zax (innT t) x y=zax t x y:=by
 obtain⟨h1,h2⟩:=zcJ.1 hh;cases t with
 | e=>exact absurd h1 (by simp[Tr.lv])
 | s k=>exact absurd h1 (by simp[Tr.lv])
 | n v a b c d =>
  have hv1:1<v:=h1;obtain⟨m,rfl,rfl,ha,hb,hc,hd,_⟩:=wf_n hw;obtain⟨k,rfl⟩:∃k,m=k+1:=⟨m-1,by omega⟩;have ec:(((k+1:Nat)):Int)=(k:Int)+1:=by omega
  rw[ec] at ha hb hc hd;have h0:∀{i:Nat},i<4→∀j,j<4→j≠3-i→((Tr.n (((k+1:Nat):Int)+1) a b c d).q i).q j=.e:=fun hi j hj hne=>h2 _ hi j hj (by omega);have wq:∀{t:Tr} (i:Nat),wfT ((k:Int)+1) t→wfT (k:Int) (t.q i):=fun i hw=>by
   have:=wf_q hw i
   rwa [show(k:Int)+1-1=k by omega] at this
  have hne:=zvh hw hh;have e1:(innT (.n (((k+1:Nat):Int)+1) a b c d)).lv.toNat-1=k:=by
   rcases zkn (.n (((k+1:Nat):Int)+1) a b c d) with e|e
   ·exact absurd e hne
   ·rw[e];show(((k+1:Nat):Int)+1-1).toNat-1=k;omega
  have e2:(Tr.n (((k+1:Nat):Int)+1) a b c d).lv.toNat-1=k+1:=by
   show(((k+1:Nat):Int)+1).toNat-1=k+1;omega
  unfold zax;rw[e1,e2];have ei:innT (.n (((k+1:Nat):Int)+1) a b c d)=mk ((k:Int)+1) (a.q 3) (b.q 2) (c.q 1) (d.q 0):=by
   unfold innT;show mk (((k+1:Nat):Int)+1-1) _ _ _ _=_;rw[show((k+1:Nat):Int)+1-1=(k:Int)+1 by omega];rfl
  rw[ei,zdC (wq 3 ha) (wq 2 hb) (wq 1 hc) (wq 0 hd)];have wk:∀{t:Tr},wfT ((k:Int)+1) t→wfT (((k+1:Nat)):Int) t:=fun h=>by rw[ec];exact h
  rw[show(((k+1:Nat):Int)+1)=(((k+1:Nat)):Int)+1 from rfl,zcq (wk ha) (wk hb) (wk hc) (wk hd)];rw[zgh ha (i:=3) (by omega) (fun j hj hne=>h0 (i:=0) (by omega) j hj hne),zgh hb (i:=2) (by omega) (fun j hj hne=>h0 (i:=1) (by omega) j hj hne),zgh hc (i:=1) (by omega) (fun j hj hne=>h0 (i:=2) (by omega) j hj hne),zgh hd (i:=0) (by omega) (fun j hj hne=>h0 (i:=3) (by omega) j hj hne)];have ep:=zap k;show _=zae (a.q 3) (x+p2 (k+1)-p2 k) (y+p2 (k+1)-p2 k)+zae (b.q 2) (x+p2 (k+1)-p2 (k+1)-0) (y+p2 (k+1)-p2 k)+zae (c.q 1) (x+p2 (k+1)-p2 k) (y+p2 (k+1)-p2 (k+1)-0)+zae (d.q 0) (x+p2 (k+1)-p2 (k+1)-0) (y+p2 (k+1)-p2 (k+1)-0);rw[show x+p2 (k+1)-p2 k=x+p2 k by omega,show y+p2 (k+1)-p2 k=y+p2 k by omega,show x+p2 (k+1)-p2 (k+1)-0=x+p2 k-p2 k by omega,show y+p2 (k+1)-p2 (k+1)-0=y+p2 k-p2 k by omega]
theorem zqg {n:Nat}{t:Tr}(hw:wfT (n:Int) t)(x y:Int):zax (shrT t) x y=zax t x y:=by
 suffices h:∀(m n:Nat) (t:Tr),t.lv.toNat≤m→wfT (n:Int) t→zax (shrT t) x y=zax t x y from h _ n t (Nat.le_refl _) hw
 intro m
 induction m with
 | zero =>
  intro n t hm hw;have:holT t=false:=by
   cases hq:holT t
   ·rfl
   ·have:=(zcJ.1 hq).1;omega
  rw[zeN this]
 | succ m ih =>
  intro n t hm hw;cases hq:holT t with
  | false=>rw[zeN hq]
  | true =>
   have h1:=(zcJ.1 hq).1;have hw2:=zqc hw hq;have hn:1≤n:=by
    obtain⟨_,h2,_⟩:=zxC hw (by omega);omega
   rw[show((n:Int)-1)=((n-1:Nat):Int) by omega] at hw2;rw[zne hq,ih (n-1) _ ?_ hw2,zkp hw hq];rcases zkn t with e|e
   ·rw[e];exact Nat.zero_le _
   ·rw[e];omega
theorem ztm {m k:Nat}{t u:Tr}(ht:wfT (((m+1:Nat)):Int) t)(hu:wfT (((k+1+1:Nat)):Int) u)(hmk:m≤k)(hne:u≠.e)(h:∀x y,zax t x y=zax u x y)(htl:t.lv.toNat-1=m∨t=.e):holT u=true:=by
 have hul:u.lv=((k+1+1:Nat):Int):=by
  cases u with
  | e=>exact absurd rfl hne
  | s q =>
   have:=hu.1;omega
  | n v a b c d=>exact hu.1.symm
 rw[zcJ,hul];refine⟨by omega,fun i hi j hj hji=>Classical.byContradiction fun hq=>?_⟩;have hu1:wfT (((k+1:Nat):Int)+1) u:=hu;have hw1:wfT ((k:Int)+1) (u.q i):=by
  have:=wf_q hu i
  rwa [show(((k+1+1:Nat)):Int)-1=(k:Int)+1 by omega] at this
 have hw2:wfT (k:Int) ((u.q i).q j):=by
  have:=wf_q hw1 j
  rwa [show(k:Int)+1-1=k by omega] at this
 obtain⟨x,y,hxy⟩:=zbb _ k hw2 hq;have hr:=zar _ k x y hw2 hxy;have s1:=zeQ hw1 hj hxy;have s2:=zeQ hu1 hi (x:=x+offX k j) (y:=y+offY k j) (by rw[s1];exact hxy);rw[s1] at s2;have hp:=zaz k;have ep:=zap k;have ht2:=h (x+offX k j+offX (k+1) i-p2 (k+1)) (y+offY k j+offY (k+1) i-p2 (k+1));unfold zax at ht2;rw[hul,show(((k+1+1:Nat)):Int).toNat-1=k+1 by omega,show x+offX k j+offX (k+1) i-p2 (k+1)+p2 (k+1)=x+offX k j+offX (k+1) i by omega,show y+offY k j+offY (k+1) i-p2 (k+1)+p2 (k+1)=y+offY k j+offY (k+1) i by omega,s2] at ht2;rcases htl with htl|htl
 ·rw[htl] at ht2;have hin:=zar t (m+1) _ _ ht (by rw[ht2];exact hxy);have e1:=zap m;have e2:=zaw hmk
  match i,j,hi,hj with
  | 0,0,_,_=>simp only[offX,offY] at hin;omega
  | 0,1,_,_=>simp only[offX,offY] at hin;omega
  | 0,2,_,_=>simp only[offX,offY] at hin;omega
  | 0,3,_,_=>exact hji rfl
  | 1,0,_,_=>simp only[offX,offY] at hin;omega
  | 1,1,_,_=>simp only[offX,offY] at hin;omega
  | 1,2,_,_=>exact hji rfl
  | 1,3,_,_=>simp only[offX,offY] at hin;omega
  | 2,0,_,_=>simp only[offX,offY] at hin;omega
  | 2,1,_,_=>exact hji rfl
  | 2,2,_,_=>simp only[offX,offY] at hin;omega
  | 2,3,_,_=>simp only[offX,offY] at hin;omega
  | 3,0,_,_=>exact hji rfl
  | 3,1,_,_=>simp only[offX,offY] at hin;omega
  | 3,2,_,_=>simp only[offX,offY] at hin;omega
  | 3,3,_,_=>simp only[offX,offY] at hin;omega
 ·rw[htl] at ht2;exact hxy ht2.symm
theorem zqh {n k:Nat}{t u:Tr}(ht:wfT (n:Int) t)(hu:wfT (k:Int) u)(hts:∀q,t≠.s q)(hus:∀q,u≠.s q)(hht:holT t=false)(hhu:holT u=false)(h:∀x y,zax t x y=zax u x y):t=u:=by
 have key:∀{t u:Tr} {n k:Nat},wfT (n:Int) t→wfT (k:Int) u→(∀q,t≠.s q)→(∀q,u≠.s q)→holT u=false→(∀x y,zax t x y=zax u x y)→n≤k→t=u:=by
  intro t u n k ht hu hts hus hhu h hnk;cases t with
  | s q=>exact absurd rfl (hts q)
  | e =>
   refine Classical.byContradiction fun hne=>?_;obtain⟨x,y,h2⟩:=zbb u k hu (fun e=>hne e.symm);have h3:=h (x-p2 (u.lv.toNat-1)) (y-p2 (u.lv.toNat-1));unfold zax at h3;rw[show x-p2 (u.lv.toNat-1)+p2 (u.lv.toNat-1)=x by omega,show y-p2 (u.lv.toNat-1)+p2 (u.lv.toNat-1)=y by omega] at h3;exact h2 h3.symm
  | n v a b c d =>
   obtain⟨m,rfl,rfl,ha,hb,hc,hd,hm9⟩:=wf_n ht;have hlv:(Tr.n ((m:Int)+1) a b c d).lv.toNat-1=m:=by
    show((m:Int)+1).toNat-1=m;omega
   by_cases hue:u=.e
   ·subst hue;obtain⟨x,y,h2⟩:=zbb _ (m+1) ht (by simp);have h3:=h (x-p2 m) (y-p2 m);unfold zax at h3;rw[hlv,show x-p2 m+p2 m=x by omega,show y-p2 m+p2 m=y by omega] at h3;exact absurd h3 h2
   ·rcases Nat.lt_or_ge (m+1) k with h1|h1
    ·obtain⟨q,rfl⟩:∃q,k=q+1+1:=⟨k-2,by omega⟩;rw[ztm ht hu (by omega) hue h (.inl hlv)] at hhu;cases hhu
    ·have:k=m+1:=by omega
     subst this;refine zdB _ u (m+1) ht hu fun x y=>?_;have hul:u.lv.toNat-1=m:=by
      cases u with
      | e=>exact absurd rfl hue
      | s q=>exact absurd rfl (hus q)
      | n v2 a2 b2 c2 d2 =>
       have e:((m+1:Nat):Int)=v2:=hu.1;show v2.toNat-1=m;omega
     have h3:=h (x-p2 m) (y-p2 m);unfold zax at h3;rw[hlv,hul,show x-p2 m+p2 m=x by omega,show y-p2 m+p2 m=y by omega] at h3;exact h3
 rcases Nat.le_total n k with h1|h1
 ·exact key ht hu hts hus hhu h h1
 ·exact(key hu ht hus hts hht (fun x y=>(h x y).symm) h1).symm
end Go.Proofs.YtbabbmdpgpcgjaaGreatDoor.Nds

namespace Go.Proofs.YtbabbmdpgpcgjaaGreatDoor
open Nds
structure Cl where
 x:Int
 y:Int
 s:Int
def lk:List Cl→Int→Int→Int
 | [],_,_=>0
 | c :: l,x,y=>if c.x=x∧c.y=y then c.s else lk l x y
def sqB (X Y h:Int)(c:Cl):Bool:=decide (X≤c.x∧c.x<X+h∧Y≤c.y∧c.y<Y+h)
theorem zds {X Y h:Int}{c:Cl}:sqB X Y h c=true↔X≤c.x∧c.x<X+h∧Y≤c.y∧c.y<Y+h:=by
 unfold sqB;rw[decide_eq_true_iff]
def Fine (l:List Cl):Prop:=(∀c∈l,1≤c.s∧c.s≤255)∧l.Pairwise (fun a b=>¬ (a.x=b.x∧a.y=b.y))
theorem Cl.ext' {a b:Cl}(h1:a.x=b.x)(h2:a.y=b.y)(h3:a.s=b.s):a=b:=by
 cases a;cases b;simp_all
def ltC (a b:Cl):Prop:=a.y<b.y∨(a.y=b.y∧a.x<b.x)
def ltB (a b:Cl):Bool:=decide (a.y<b.y∨(a.y=b.y∧a.x<b.x))
theorem zlO {a b:Cl}:ltB a b=true↔ltC a b:=by
 unfold ltB;rw[decide_eq_true_iff];rfl
theorem zgX {a b c:Cl}(h:ltC a b)(k:ltC b c):ltC a c:=by
 unfold ltC at h k ⊢;omega
theorem zdt {a b:Cl}(h:ltC a b):¬ (a.x=b.x∧a.y=b.y):=by
 unfold ltC at h;omega
theorem zqi (a b:Cl):ltC a b∨(a.x=b.x∧a.y=b.y)∨ltC b a:=by
 unfold ltC;omega
def Srt (l:List Cl):Prop:=l.Pairwise ltC
theorem zec {a:Cl}{l:List Cl}(h:Srt (a :: l)):(∀b∈l,ltC a b)∧Srt l:=⟨fun b hb=>List.rel_of_pairwise_cons h hb,(List.pairwise_cons.1 h).2⟩
theorem zbr:∀{l:List Cl} {x y:Int},(∀c∈l,¬ (c.x=x∧c.y=y))→lk l x y=0
 | [],_,_,_=>rfl
 | c :: l,x,y,h=>by
  unfold lk;rw[if_neg (h c (by simp)),zbr fun d hd=>h d (by simp[hd])]
theorem zgY:∀{l:List Cl} {c:Cl},Srt l→c∈l→lk l c.x c.y=c.s
 | a :: l,c,hs,hc=>by
  obtain⟨h1,h2⟩:=zec hs;unfold lk;rcases List.mem_cons.1 hc with rfl|hc
  ·rw[if_pos ⟨rfl,rfl⟩]
  ·rw[if_neg (zdt (h1 c hc)),zgY h2 hc]
theorem zed:∀{l m:List Cl},Srt l→Srt m→(∀c∈l,c.s≠0)→(∀c∈m,c.s≠0)→(∀x y,lk l x y=lk m x y)→l=m
 | [],[],_,_,_,_,_=>rfl
 | [],b :: m,_,hm,_,h0,h=>by
  have h1:=zgY hm (c:=b) (by simp);rw[←h] at h1;exact absurd h1.symm (h0 b (by simp))
 | a :: l,[],hl,_,h0,_,h=>by
  have h1:=zgY hl (c:=a) (by simp);rw[h] at h1;exact absurd h1.symm (h0 a (by simp))
 | a :: l,b :: m,hl,hm,h0,h1,h=>by
  obtain⟨l1,l2⟩:=zec hl;obtain⟨m1,m2⟩:=zec hm;have ha:=zgY hl (c:=a) (by simp);have hb:=zgY hm (c:=b) (by simp);have hxy:a.x=b.x∧a.y=b.y:=by
   rcases zqi a b with h2|h2|h2
   ·rw[h,zbr (l:=b :: m) (fun c hc e=>by
     rcases List.mem_cons.1 hc with rfl|hc
     ·exact zdt h2 ⟨e.1.symm,e.2.symm⟩
     ·exact zdt (zgX h2 (m1 c hc)) ⟨e.1.symm,e.2.symm⟩)] at ha
    exact absurd ha.symm (h0 a (by simp))
   ·exact h2
   ·rw[←h,zbr (l:=a :: l) (fun c hc e=>by
     rcases List.mem_cons.1 hc with rfl|hc
     ·exact zdt h2 ⟨e.1.symm,e.2.symm⟩
     ·exact zdt (zgX h2 (l1 c hc)) ⟨e.1.symm,e.2.symm⟩)] at hb
    exact absurd hb.symm (h1 b (by simp))
  have hs:a.s=b.s:=by
   rw[h,hxy.1,hxy.2] at ha;exact ha.symm.trans hb
  have e:a=b:=Cl.ext' hxy.1 hxy.2 hs;subst e;rw[zed l2 m2 (fun c hc=>h0 c (by simp[hc])) (fun c hc=>h1 c (by simp[hc])) fun x y=>?_];have h2:=h x y;by_cases hc:a.x=x∧a.y=y
  ·rw[zbr (l:=l) (fun c hc2 e=>zdt (l1 c hc2) ⟨hc.1.trans e.1.symm,hc.2.trans e.2.symm⟩),zbr (l:=m) (fun c hc2 e=>zdt (m1 c hc2) ⟨hc.1.trans e.1.symm,hc.2.trans e.2.symm⟩)]
  ·unfold lk at h2
   rwa [if_neg hc,if_neg hc] at h2
theorem ztn {l:List Cl}(h:Srt l)(hs:∀c∈l,1≤c.s∧c.s≤255):Fine l:=⟨hs,h.imp fun h=>zdt h⟩
def insC:List Cl→Cl→List Cl
 | [],c=>[c]
 | a :: l,c=>if ltB a c=true then a :: insC l c else if a.x=c.x∧a.y=c.y then c :: l else c :: a :: l
theorem zlP:∀{l:List Cl} {c d:Cl},d∈insC l c→d=c∨d∈l
 | [],c,d,h=>by
  unfold insC at h;exact .inl (List.mem_singleton.1 h)
 | a :: l,c,d,h=>by
  unfold insC at h;split at h
  ·rcases List.mem_cons.1 h with h|h
   ·exact .inr (by simp[h])
   ·rcases zlP h with h|h
    ·exact .inl h
    ·exact .inr (by simp[h])
  ·split at h
   ·rcases List.mem_cons.1 h with h|h
    ·exact .inl h
    ·exact .inr (by simp[h])
   ·rcases List.mem_cons.1 h with h|h
    ·exact .inl h
    ·exact .inr h
theorem zqj:∀{l:List Cl} (c:Cl),Srt l→Srt (insC l c)
 | [],c,_=>List.pairwise_singleton _ _
 | a :: l,c,h=>by
  obtain⟨h1,h2⟩:=zec h;unfold insC;split
  ·rename_i hlt;refine List.pairwise_cons.2 ⟨fun b hb=>?_,zqj c h2⟩;rcases zlP hb with rfl|hb
   ·exact zlO.1 hlt
   ·exact h1 b hb
  ·rename_i hlt;split
   ·rename_i hxy;refine List.pairwise_cons.2 ⟨fun b hb=>?_,h2⟩;have h3:=h1 b hb;unfold ltC at h3 ⊢;omega
   ·rename_i hxy;have hca:ltC c a:=by
     rcases zqi a c with h3|h3|h3
     ·exact absurd (zlO.2 h3) hlt
     ·exact absurd h3 hxy
     ·exact h3
    refine List.pairwise_cons.2 ⟨fun b hb=>?_,h⟩;rcases List.mem_cons.1 hb with rfl|hb
    ·exact hca
    ·exact zgX hca (h1 b hb)
theorem zvk:∀{l:List Cl} (c:Cl),Srt l→∀x y,lk (insC l c) x y=if c.x=x∧c.y=y then c.s else lk l x y
 | [],c,_,x,y=>rfl
 | a :: l,c,h,x,y=>by
  obtain⟨h1,h2⟩:=zec h;unfold insC;split
  ·rename_i hlt;have h3:=zlO.1 hlt;unfold lk;rw[zvk c h2 x y];by_cases ha:a.x=x∧a.y=y
   ·rw[if_pos ha,if_neg (fun e=>zdt h3 ⟨ha.1.trans e.1.symm,ha.2.trans e.2.symm⟩),if_pos ha]
   ·rw[if_neg ha,if_neg ha]
  ·split
   ·rename_i hxy;unfold lk;by_cases hc:c.x=x∧c.y=y
    ·rw[if_pos hc,if_pos hc]
    ·rw[if_neg hc,if_neg hc,if_neg (fun e=>hc ⟨hxy.1.symm.trans e.1,hxy.2.symm.trans e.2⟩)]
   ·rfl
def zep (l:List Cl):List Cl:=l.foldl insC []
def zfu (l:List Cl)(x y:Int):Int:=l.foldl (fun s c=>if c.x=x∧c.y=y then c.s else s) 0
theorem zlQ (l:List Cl)(c:Cl):zep (l++[c])=insC (zep l) c:=by
 unfold zep;rw[List.foldl_append];rfl
theorem zfv (l:List Cl)(c:Cl)(x y:Int):zfu (l++[c]) x y=if c.x=x∧c.y=y then c.s else zfu l x y:=by
 unfold zfu;rw[List.foldl_append];rfl
theorem zlR (l:List Cl):Srt (zep l)∧(∀x y,lk (zep l) x y=zfu l x y)∧∀c∈zep l,c∈l:=by
 suffices h:∀k,k≤l.length→Srt (zep (l.take k))∧(∀x y,lk (zep (l.take k)) x y=zfu (l.take k) x y)∧∀c∈zep (l.take k),c∈l by
  have:=h l.length (Nat.le_refl _)
  rwa [List.take_of_length_le (Nat.le_refl _)] at this
 intro k
 induction k with
 | zero=>exact fun _=>⟨List.Pairwise.nil,fun x y=>rfl,fun c hc=>by cases hc⟩
 | succ k ih =>
  intro hk;obtain⟨i1,i2,i3⟩:=ih (by omega);rw[List.take_succ_eq_append_getElem (by omega),zlQ];refine⟨zqj _ i1,fun x y=>?_,fun c hc=>?_⟩
  ·rw[zvk _ i1,zfv,i2]
  ·rcases zlP hc with rfl|hc
   ·exact List.getElem_mem _
   ·exact i3 c hc
def zaR (l:List Cl):List Cl:=(zep l).filter fun c=>c.s != 0
theorem zwb:∀{l:List Cl},Srt l→∀x y,lk (l.filter fun c=>c.s != 0) x y=lk l x y
 | [],_,_,_=>rfl
 | c :: l,h,x,y=>by
  obtain⟨h1,h2⟩:=zec h;rw[List.filter_cons];by_cases hc:(c.s != 0)=true
  ·rw[if_pos hc];unfold lk;rw[zwb h2]
  ·rw[if_neg hc,zwb h2];have h0:c.s=0:=by simpa using hc
   conv=>rhs;unfold lk
   by_cases hxy:c.x=x∧c.y=y
   ·rw[if_pos hxy,h0];exact zbr fun d hd e=>zdt (h1 d hd) ⟨hxy.1.trans e.1.symm,hxy.2.trans e.2.symm⟩
   ·rw[if_neg hxy]
theorem zbx (l:List Cl):Srt (zaR l)∧(∀x y,lk (zaR l) x y=zfu l x y)∧(∀c∈zaR l,c.s≠0∧c∈l):=by
 obtain⟨h1,h2,h3⟩:=zlR l;refine⟨h1.sublist List.filter_sublist,fun x y=>?_,fun c hc=>?_⟩
 ·unfold zaR;rw[zwb h1,h2]
 ·obtain⟨h4,h5⟩:=List.mem_filter.1 hc;exact⟨by simpa using h5,h3 c h4⟩
end Go.Proofs.YtbabbmdpgpcgjaaGreatDoor

namespace Go.Proofs.YtbabbmdpgpcgjaaGreatDoor
open Go.RowKit Nds
structure Cv where
 sx:Bool
 ax:Option Addr
 cx:Nat
 xs:List Nat
 sy:Bool
 ay:Option Addr
 cy:Nat
 ys:List Nat
 st:Nat
def cv0:Cv:=⟨false,none,0,[],false,none,0,[],0⟩
def Cv.cl (v:Cv):Cl:=⟨ival v.sx v.xs,ival v.sy v.ys,v.st⟩
abbrev cvv (v:Cv):Value:=.agg #[.bool v.sx,.slice v.ax v.xs.length v.cx,.bool v.sy,.slice v.ay v.ys.length v.cy,.int .u8 v.st]
def CvAt (w:World)(b o:Nat)(v:Cv):Prop :=
 w.cell? ⟨b,o,none⟩=some (.bool v.sx)∧w.cell? ⟨b,o+1,none⟩=some (.slice v.ax v.xs.length v.cx)∧w.cell? ⟨b,o+2,none⟩=some (.bool v.sy)∧w.cell? ⟨b,o+3,none⟩=some (.slice v.ay v.ys.length v.cy)∧w.cell? ⟨b,o+4,none⟩=some (.int .u8 v.st)
def CvU (w:World)(v:Cv):Prop:=Us w v.ax v.cx v.xs∧Us w v.ay v.cy v.ys∧v.st≤255
def cat (l:List Cv)(i:Nat):Cv:=l[i]?.getD cv0
def Cs (w:World)(A:Option Addr)(c:Nat)(l:List Cv):Prop :=
 (∀v∈l,CvU w v)∧l.length≤c∧c≤maxLen∧(0<l.length→∃b off,A=some ⟨b,off,none⟩∧b<w.heap.size∧∀i,i<l.length→CvAt w b (off+i*5) (cat l i))
theorem zaZ {l:List Cv}{i:Nat}(h:i<l.length):cat l i∈l:=by
 unfold cat;rw[List.getElem?_eq_getElem h];exact List.getElem_mem h
theorem CvAt.below {w w':World}{b o:Nat}{v:Cv}(h:CvAt w b o v)(hb:w'.heap[b]?=w.heap[b]?):CvAt w' b o v:=by
 obtain⟨h1,h2,h3,h4,h5⟩:=h;exact⟨(World.cell?_of_block (w:=w) hb).trans h1,(World.cell?_of_block (w:=w) hb).trans h2,(World.cell?_of_block (w:=w) hb).trans h3,(World.cell?_of_block (w:=w) hb).trans h4,(World.cell?_of_block (w:=w) hb).trans h5⟩
theorem CvU.below {w w':World}{v:Cv}(h:CvU w v)(hb:Below w.heap.size w w'):CvU w' v:=⟨h.1.below hb,h.2.1.below hb,h.2.2⟩
theorem Cs.below {w w':World}{A:Option Addr}{c:Nat}{l:List Cv}(h:Cs w A c l)(hb:Below w.heap.size w w'):Cs w' A c l :=
 ⟨fun v hv=>(h.1 v hv).below hb,h.2.1,h.2.2.1,fun hn=>by
  obtain⟨b,off,e,hlt,hc⟩:=h.2.2.2 hn;exact⟨b,off,e,Nat.lt_of_lt_of_le hlt hb.size,fun i hi=>(hc i hi).below (hb.block b hlt)⟩⟩
theorem Cs.cap {w:World}{A:Option Addr}{c:Nat}{l:List Cv}(h:Cs w A c l):l.length≤c∧c≤9223372036854775807:=by
 have h1:=h.2.1;have h2:=h.2.2.1;simp only[maxLen] at h2;exact⟨h1,by omega⟩
theorem Cs.at_ {w:World}{A:Option Addr}{c:Nat}{l:List Cv}(h:Cs w A c l)(hn:0<l.length) :
  ∃b off,A=some ⟨b,off,none⟩∧b<w.heap.size∧∀i,i<l.length→CvAt w b (off+i*5) (cat l i):=h.2.2.2 hn
theorem CvAt.new (w:World)(v:Cv)(t:TypeId):CvAt (w.alloc (.cells #[.bool v.sx,.slice v.ax v.xs.length v.cx,.bool v.sy,.slice v.ay v.ys.length v.cy,.int .u8 v.st] t)) w.heap.size 0 v:=by
 have h:=heap_alloc_new w (.cells #[.bool v.sx,.slice v.ax v.xs.length v.cx,.bool v.sy,.slice v.ay v.ys.length v.cy,.int .u8 v.st] t);refine⟨?_,?_,?_,?_,?_⟩ <;> (rw[cell_of_row _ _ _ _ _ _ h];rfl)
def ordC (v u:Cv):Int:=if ordI (ival v.sy v.ys) (ival u.sy u.ys)=0 then ordI (ival v.sx v.xs) (ival u.sx u.xs) else ordI (ival v.sy v.ys) (ival u.sy u.ys)
end Go.Proofs.YtbabbmdpgpcgjaaGreatDoor
