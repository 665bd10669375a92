import Derived.Test.YtfjajpnfjjdnpaaGreatDoorWNcE

set_option linter.unusedVariables false
set_option linter.unusedSimpArgs false
set_option maxRecDepth 100000
set_option maxHeartbeats 6400000
namespace Go.Proofs.YtfjajpnfjjdnpaaGreatDoor
open Nds
theorem zhH {l:List Nd}{y:Nd}(hf:fitB l y=true):zdX ((dens l).map Tr.isE) y=(norm (dens l) y).isE:=by
 have hv:=zap hf;rw[zlT];unfold zdX;refine zdy fun i hi=>?_;have hk:=zaj hf hi;by_cases h1:y.lv=1
 ·rw[h1,zbI];unfold st;by_cases h0:y.kid i=0
  ·rw[h0];rfl
  ·rw[if_neg h0,beq_eq_false_iff_ne.2 h0];rfl
 ·rw[zaB h1,decide_eq_true (show 1<y.lv by omega),Bool.true_and];rcases zaA h1 hk with e|⟨p,e,hp,_⟩
  ·rw[e,show(0:Int).toNat=0 from rfl,zav];rfl
  ·rw[e,beq_eq_false_iff_ne.2 (show(p:Int)+1≠0 by omega),Bool.false_or,show((p:Int)+1).toNat=p+1 by omega];unfold den;have hlt:p+1<(dens l).length:=by rw[zcZ];omega
   rw[List.getD_eq_getElem?_getD,List.getD_eq_getElem?_getD,List.getElem?_map,List.getElem?_eq_getElem hlt];rfl
theorem zjF {l:List Nd}(h:zac l=true):emps l=(dens l).map Tr.isE:=by
 suffices hk:∀k,k≤l.length→emps (l.take k)=(dens (l.take k)).map Tr.isE by
  have:=hk l.length (Nat.le_refl _)
  rwa [List.take_of_length_le (Nat.le_refl _)] at this
 intro k
 induction k with
 | zero=>intro _;rfl
 | succ k ih =>
  intro hk;rw[zcE (by omega),zdh,zer,ih (by omega),List.map_append,zhH (zai.1 h k (by omega))];rfl
theorem zdB {l:List Nd}(h:zac l=true){n:Nat}(hn:n≤l.length):empB l n=(den l n).isE:=by
 unfold empB den;have hlt:n<(dens l).length:=by rw[zcZ];omega
 rw[zjF h,List.getD_eq_getElem?_getD,List.getD_eq_getElem?_getD,List.getElem?_map,List.getElem?_eq_getElem hlt];rfl
theorem zjG {l:List Nd}(h:zac l=true){y:Nd}(hf:fitB l y=true):zat l y=(norm (dens l) y).isE:=by
 unfold zat;rw[zjF h];exact zhH hf
theorem zhI {l:List Nd}(h:zac l=true){p:Nat}(hp:p<l.length)(hne:den l (p+1)≠.e):zaT l (p+1)=holT (den l (p+1)):=by
 have hf:=zad h hp;have hd:=zaw h hp;have hl:(den l (p+1)).lv=(at_ l p).lv:=by rw[hd];exact zdY (by rw[←hd];exact hne)
 have hq:∀i,i<4→(den l (p+1)).q i=kidT (dens l) (at_ l p).lv ((at_ l p).kid i):=fun i hi=>by rw[hd];exact zdQ _ _ hi
 rw[Bool.eq_iff_iff,zce];unfold zaT;rw[Bool.and_eq_true,decide_eq_true_iff,List.all_eq_true,hl,show p+1-1=p by omega];have key:∀i,i<4→1<(at_ l p).lv→((decide ((at_ l p).kid i=0)||zat l (rim (at_ l (((at_ l p).kid i).toNat-1)) i))=true↔∀j,j<4→j+i≠3→((den l (p+1)).q i).q j=.e):=by
  intro i hi hlv;rw[hq i hi];have h1:(at_ l p).lv≠1:=by omega
  rw[zaB h1];rcases zaA h1 (zaj hf hi) with e|⟨r,e,hr,hrl⟩
  ·rw[e,show(0:Int).toNat=0 from rfl,zav];simp[Tr.q]
  ·rw[e,decide_eq_false (show ¬ (r:Int)+1=0 by omega),Bool.false_or,show((r:Int)+1).toNat=r+1 by omega,show r+1-1=r by omega];have hfr:=zad h hr;rw[zjG h (zcX hfr i),zaw h hr,zbP,zjD];constructor
   ·intro hh j hj hji;rw[zdQ _ _ hj];have:=hh j hj
    rwa [zjB,zoM hi hj,if_neg hji] at this
   ·intro hh j hj;rw[zjB,zoM hi hj];split
    ·unfold kidT;split
     ·rfl
     ·exact zav l
    ·rename_i hji;have:=hh j hj hji
     rwa [zdQ _ _ hj] at this
 constructor
 ·rintro⟨⟨_,h2⟩,h3⟩;exact⟨by omega,fun i hi=>(key i hi (by omega)).1 (h3 i (List.mem_range.2 hi))⟩
 ·rintro⟨h1,h2⟩;exact⟨⟨by omega,by omega⟩,fun i hi=>(key i (List.mem_range.1 hi) h1).2 (h2 i (List.mem_range.1 hi))⟩
def OfL (l:List Nd)(n:Nat):List Nd:=(enc (shrT (den l n)) []).1
theorem zkH {l:List Nd}(h:zac l=true){n:Nat}(hn:n≤l.length):∃v,wfT v (den l n):=by
 cases n with
 | zero=>rw[zav];exact⟨0,trivial⟩
 | succ p=>exact⟨_,zbv h p (by omega)⟩
theorem zjH {l:List Nd}{n:Nat}{k:Int}:den l n≠.s k:=by
 intro e;rcases zes l n with h|⟨v,a,b,c,d,h⟩
 ·rw[h] at e;cases e
 ·rw[h] at e;cases e
theorem ziD {v:Int}{t:Tr}(hw:wfT v t)(hne:t≠.e)(hs:∀k,t≠.s k):(enc t []).2=((enc t []).1.length:Int)∧0<(enc t []).1.length∧den (enc t []).1 (enc t []).1.length=t:=by
 have hsp:=zbc t v [] hw zcu;cases t with
 | e=>exact absurd rfl hne
 | s k=>exact absurd rfl (hs k)
 | n u a b c d =>
  have hend:=zoT (L:=(enc (.n u a b c d) []).1) (.n u a b c d) v [] 1329 hw zcu (List.prefix_refl _) (by obtain⟨rfl,_,h,_⟩:=hw;exact h) (by simp) (by simp);obtain⟨h1,h2,h3⟩:=hsp.num
  -- the root comes last: its number is the greatest
  have hv:v=u:=hw.1;subst hv;rw[zns] at h1 h2 h3 ⊢;have h4:=ziC (v:=v-1) (f:=(Tr.n v a b c d).q) zcu (fun i hi o ho=>zbc _ (v-1) o (wf_q hw i) ho) 4 (Nat.le_refl _);obtain⟨o4,ho4⟩:∃o4,o4=outK (Tr.n v a b c d).q [] 4:=⟨_,rfl⟩;obtain⟨x,hx⟩:∃x,x=topN (Tr.n v a b c d).q [] v:=⟨_,rfl⟩;have hxv:x.lv=v:=by rw[hx];rfl
  rw[←ho4,←hx] at h1 h2 h3 ⊢;rcases zet o4 x with⟨e,hf⟩|⟨i,hi,he,e⟩
  ·have hadd:add o4 x=(o4++[x],o4.length+1):=by
    unfold add;rw[if_pos e]
   rw[hadd] at h1 h2 h3 ⊢;simp only[Int.toNat_natCast] at h3;refine⟨by simp,by simp,?_⟩;simp only[List.length_append,List.length_cons,List.length_nil];exact h3
  ·exfalso;have:=h4.lvs i (Nat.zero_le _) (by rw[←ho4];exact hi);rw[←ho4,he,hxv] at this;omega
theorem zjI {v:Int}{t:Tr}(hw:wfT v t)(hs:∀k,t≠.s k)(hh:holT t=false):zeZ (enc t []).1=true:=by
 by_cases hne:t=.e
 ·subst hne;rfl
 ·obtain⟨hr,h0,hd⟩:=ziD hw hne hs;have hsp:=zbc t v [] hw zcu;have hend:=zoT (L:=(enc t []).1) t v [] 1329 hw zcu (List.prefix_refl _) (by
   cases t with
   | e=>exact absurd rfl hne
   | s k=>exact absurd rfl (hs k)
   | n u a b c d=>obtain⟨rfl,_,h,_⟩:=hw;exact h) hne hs
  rw[hr,Int.toNat_natCast] at hend;obtain⟨q,hq⟩:∃q,q=(enc t []).1:=⟨_,rfl⟩;have hg:=hsp.good;rw[←hq] at h0 hd hend hg ⊢;have hqn:q≠[]:=fun e=>by rw[e] at h0;simp at h0
  obtain⟨p,hp⟩:∃p,q.length=p+1:=⟨q.length-1,by omega⟩;refine(zlS hqn hg.1).2 ⟨?_,fun i hi=>⟨?_,?_⟩,hend⟩
  ·rw[hp] at hd ⊢;rw[zhI hg.1 (by omega) (by rw[hd];exact hne),hd];exact hh
  ·rw[zdB hg.1 (by omega)];exact ztb.2 (hg.2 i hi).1
  ·exact zkD hi fun j hj e=>(hg.2 i hi).2 j hj e.symm
theorem zoU {v:Int}{t:Tr}(hw:wfT v t)(hs:∀k,t≠.s k):∀k,shrT t≠.s k:=by
 by_cases hh:holT t=true
 ·intro k e
  -- what is left is a node or nothing
  have key:∀(m:Nat) (t:Tr),(∀k,t≠.s k)→∀k,shrF m t≠.s k:=by
   intro m
   induction m with
   | zero=>exact fun t h=>h
   | succ m ih =>
    intro t h;unfold shrF;split
    ·refine ih _ fun k e=>?_;unfold innT mk at e;split at e <;> cases e
    ·exact h
  exact key _ t hs k e
 ·rw[zct (by simpa using hh)];exact hs
theorem zrP {l:List Nd}(h:zac l=true){n:Nat}(hn:n≤l.length):∃v,wfT v (shrT (den l n))∧(∀k,shrT (den l n)≠.s k)∧holT (shrT (den l n))=false:=by
 obtain⟨v,hw⟩:=zkH h hn;obtain⟨u,hu⟩:=zvj hw;exact⟨u,hu,zoU hw (fun k=>zjH),zrN hw⟩
/- How many nodes a quad has. -/
theorem zth {out:List Nd}(hg:zaq out){i:Nat}(hi:i<out.length):NumT out (den out (i+1)) ((i:Int)+1):=by
 rcases zes out (i+1) with h|⟨v,a,b,c,d,h⟩
 ·exact absurd h (hg.2 i hi).1
 ·rw[h];exact⟨by omega,by omega,by rw[show((i:Int)+1).toNat=i+1 by omega];exact h⟩
theorem zrQ {out:List Nd}(hg:zaq out){i j:Nat}(hi:i<out.length)(hj:j<out.length)(h:den out (i+1)=den out (j+1)):i=j:=by
 have h1:=zfP hg _ _ (zth hg hi);have h2:=zfP hg _ _ (zth hg hj);rw[h,h2] at h1;have:=congrArg Prod.snd h1;simp only at this;omega
def SubT (l out:List Nd):Prop:=∀i,i<out.length→∃j,0<j∧j≤l.length∧den l j=den out (i+1)
theorem ztW {l out:List Nd}(hg:zaq out)(hs:SubT l out):out.length≤l.length:=by
 have key:∀k,k≤out.length→∃js:List Nat,js.length=k∧js.Nodup∧∀v∈js,(0<v∧v≤l.length)∧∃i,i<k∧den l v=den out (i+1):=by
  intro k
  induction k with
  | zero=>exact fun _=>⟨[],rfl,List.nodup_nil,fun v hv=>by cases hv⟩
  | succ k ih =>
   intro hk;obtain⟨js,h1,h2,h3⟩:=ih (by omega);obtain⟨j,j0,j1,j2⟩:=hs k (by omega);refine⟨j :: js,by simp[h1],List.nodup_cons.2 ⟨fun hm=>?_,h2⟩,fun v hv=>?_⟩
   ·obtain⟨_,i,hi,he⟩:=h3 j hm;have:=zrQ hg (by omega) (by omega) (he.symm.trans j2);omega
   ·rcases List.mem_cons.1 hv with rfl|hv
    ·exact⟨⟨j0,j1⟩,k,by omega,j2⟩
    ·obtain⟨a,i,hi,he⟩:=h3 v hv;exact⟨a,i,by omega,he⟩
 obtain⟨js,h1,h2,h3⟩:=key out.length (Nat.le_refl _);rw[←h1];exact zfL l.length js h2 fun v hv=>(h3 v hv).1
def InvT (l out:List Nd):Prop:=zaq out∧SubT l out
theorem zkI (l:List Nd):InvT l []:=⟨zcu,fun i hi=>absurd hi (Nat.not_lt_zero i)⟩
theorem InvT.len {l out:List Nd}(h:InvT l out):out.length≤l.length:=ztW h.1 h.2
def kT (l:List Nd)(x:Nd)(i:Nat):Tr:=kidT (dens l) x.lv (x.kid i)
theorem zdC {f g:Nat→Tr}{out:List Nd}:∀k,(∀i,i<k→f i=g i)→outK f out k=outK g out k
 | 0,_=>rfl
 | k+1,h=>by
  show(enc (f k) (outK f out k)).1=(enc (g k) (outK g out k)).1;rw[zdC k fun i hi=>h i (by omega),h k (by omega)]
theorem zdD {f g:Nat→Tr}{out:List Nd}{k:Nat}(h:∀i,i≤k→f i=g i):numK f out k=numK g out k:=by
 unfold numK;rw[zdC k fun i hi=>h i (by omega),h k (Nat.le_refl _)]
theorem zhJ {f g:Nat→Tr}{out:List Nd}{v:Int}(h:∀i,i<4→f i=g i):topN f out v=topN g out v:=by
 unfold topN;rw[zdD (k:=0) fun i hi=>h i (by omega),zdD (k:=1) fun i hi=>h i (by omega),zdD (k:=2) fun i hi=>h i (by omega),zdD (k:=3) fun i hi=>h i (by omega)]
theorem zlX (k:Int)(out:List Nd):enc (st k) out=(out,k):=by
 unfold st;split
 ·rename_i h;rw[h];rfl
 ·rfl
theorem zoV {l:List Nd}{x:Nd}(h:x.lv=1)(out:List Nd):∀k,outK (kT l x) out k=out
 | 0=>rfl
 | k+1=>by
  show(enc (kT l x k) (outK (kT l x) out k)).1=out;rw[zoV h out k];unfold kT;rw[h,zbI,zlX]
theorem ztX {l:List Nd}{x:Nd}(h:x.lv=1)(out:List Nd):topN (kT l x) out x.lv=x:=by
 have key:∀i,i<4→numK (kT l x) out i=x.kid i:=by
  intro i hi;unfold numK;rw[zoV h out i];unfold kT;rw[h,zbI,zlX]
 unfold topN;rw[key 0 (by omega),key 1 (by omega),key 2 (by omega),key 3 (by omega)];rfl
theorem zjJ {l:List Nd}(h:zac l=true){p:Nat}(hp:p<l.length)(out:List Nd):enc (den l (p+1)) out =
  if (den l (p+1)).isE=true then (out,0) else ((add (outK (kT l (at_ l p)) out 4) (topN (kT l (at_ l p)) out (at_ l p).lv)).1,((add (outK (kT l (at_ l p)) out 4) (topN (kT l (at_ l p)) out (at_ l p).lv)).2:Int)):=by
 by_cases he:den l (p+1)=.e
 ·rw[if_pos (zbP.2 he),he];rfl
 ·rw[if_neg (fun e=>he (zbP.1 e))];have hd:=zaw h hp;have hq:∀i,i<4→(den l (p+1)).q i=kT l (at_ l p) i:=fun i hi=>by rw[hd];exact zdQ _ _ hi
  have hl:(den l (p+1)).lv=(at_ l p).lv:=by rw[hd];exact zdY (by rw[←hd];exact he)
  rcases zes l (p+1) with h1|⟨v,a,b,c,d,h1⟩
  ·exact absurd h1 he
  ·rw[h1] at hq hl ⊢;have hv:v=(at_ l p).lv:=hl;rw[zns,zdC 4 hq,zhJ hq,hv]
theorem zlY {l:List Nd}{x:Nd}(hx:fitB l x=true){i:Nat}(hi:i<4):(∃k,kT l x i=st k)∨∃j,j≤l.length∧kT l x i=den l j∧x.kid i=j∧x.lv≠1:=by
 have hk:=zaj hx hi;unfold kT;by_cases h1:x.lv=1
 ·rw[h1,zbI];exact .inl ⟨_,rfl⟩
 ·rw[zaB h1];rcases zaA h1 hk with e|⟨q,e,hq,_⟩
  ·exact .inr ⟨0,Nat.zero_le _,by rw[e];rfl,by rw[e];rfl,h1⟩
  ·exact .inr ⟨q+1,by omega,by rw[e,show((q:Int)+1).toNat=q+1 by omega],by omega,h1⟩
theorem ztY {l:List Nd}(h:zac l=true){p:Nat}(hp:p<l.length){i:Nat}(hi:i<4):wfT ((at_ l p).lv-1) (kT l (at_ l p) i):=by
 have hw:=wf_q (zbv h p hp) i
 rwa [zaw h hp,zdQ _ _ hi] at hw
theorem ztZ {l out:List Nd}{x:Nd}(hs:SubT l out)(hx:∃j,0<j∧j≤l.length∧den l j=norm (dens out) x):SubT l (out++[x]):=by
 intro i hi;simp only[List.length_append,List.length_cons,List.length_nil] at hi;rcases Nat.lt_or_ge i out.length with h1|h1
 ·rw[zkE (by omega)];exact hs i h1
 ·rw[show i=out.length by omega,zdA];exact hx
theorem zoW {l:List Nd}(h:zac l=true):∀(n:Nat) (out:List Nd),n≤l.length→InvT l out→InvT l (enc (den l n) out).1:=by
 intro n
 induction n using Nat.strongRecOn with
 | _ n ih =>
  intro out hn hi;by_cases he:den l n=.e
  ·rw[he];exact hi
  ·obtain⟨p,rfl⟩:∃p,n=p+1:=⟨n-1,by have:n≠0:=fun e=>he (by rw[e];exact zav l);omega⟩;have hp:p<l.length:=by omega
   have hw:=zbv h p hp;refine⟨(zbc _ _ out hw hi.1).good,?_⟩;have hkk:∀k,k≤4→InvT l (outK (kT l (at_ l p)) out k):=by
    intro k
    induction k with
    | zero=>exact fun _=>hi
    | succ k ih2 =>
     intro hk;show InvT l (enc (kT l (at_ l p) k) (outK (kT l (at_ l p)) out k)).1;have hf:=zai.1 h p hp;have i1:=ih2 (by omega);rcases zlY (zlJ hf) (i:=k) (by omega) with⟨s,hs⟩|⟨j,hj,hs,hkj,h1⟩
     ·rw[hs,zlX];exact i1
     ·rw[hs];refine ih j ?_ _ hj i1;rcases zaA h1 (zaj hf (i:=k) (by omega)) with e|⟨q,e,hq,_⟩
      ·omega
      ·have:=List.length_take_le p l;omega
   have h4:=hkk 4 (Nat.le_refl _);have hd:=zaw h hp;have hq:∀i,i<4→(den l (p+1)).q i=kT l (at_ l p) i:=fun i hi=>by rw[hd];exact zdQ _ _ hi
   have hl:(den l (p+1)).lv=(at_ l p).lv:=by rw[hd];exact zdY (by rw[←hd];exact he)
   rw[zjJ h hp,if_neg (fun e=>he (zbP.1 e))];unfold add;split
   ·refine ztZ h4.2 ⟨p+1,by omega,hn,?_⟩;rcases zes l (p+1) with h1|⟨v,a,b,c,d,h1⟩
    ·exact absurd h1 he
    ·rw[h1] at hq hl hw ⊢;have hv:v=(at_ l p).lv:=hl;rw[←hv] at hw;have hK:=ziC (v:=v-1) (f:=(Tr.n v a b c d).q) hi.1 (fun i hi o ho=>zbc _ (v-1) o (wf_q hw i) ho) 4 (Nat.le_refl _);have ht:=(ztg hw hK).2;rw[zdC 4 hq,zhJ hq,hv] at ht;rw[←hv] at ht ⊢;exact ht.symm
   ·exact h4.2
theorem zfQ {l:List Nd}(h:zac l=true){p:Nat}(hp:p<l.length){out:List Nd}(hi:InvT l out):∀k,k≤4→InvT l (outK (kT l (at_ l p)) out k):=by
 intro k
 induction k with
 | zero=>exact fun _=>hi
 | succ k ih =>
  intro hk;show InvT l (enc (kT l (at_ l p) k) (outK (kT l (at_ l p)) out k)).1;rcases zlY (zad h hp) (i:=k) (by omega) with⟨s,hs⟩|⟨j,hj,hs,_⟩
  ·rw[hs,zlX];exact ih (by omega)
  ·rw[hs];exact zoW h j _ hj (ih (by omega))
theorem zrR {l:List Nd}(h:zac l=true){p:Nat}(hp:p<l.length){out:List Nd}(hi:InvT l out):∀k,k≤4→out <+: outK (kT l (at_ l p)) out k:=by
 intro k
 induction k with
 | zero=>exact fun _=>List.prefix_refl _
 | succ k ih =>
  intro hk;exact(ih (by omega)).trans (zbc _ _ _ (ztY h hp (by omega)) (zfQ h hp hi k (by omega)).1).pre
def innK (l:List Nd)(x:Nd)(k:Nat):Int:=if x.kid k=0 then 0 else (at_ l ((x.kid k).toNat-1)).kid (3-k)
def innN (l:List Nd)(x:Nd):Nd:=⟨x.lv-1,innK l x 0,innK l x 1,innK l x 2,innK l x 3⟩
theorem zlZ (l:List Nd)(x:Nd){k:Nat}(hk:k<4):(innN l x).kid k=innK l x k:=by
 match k,hk with
 | 0,_=>rfl
 | 1,_=>rfl
 | 2,_=>rfl
 | 3,_=>rfl
theorem zeu (l:List Nd)(v:Int):kidT (dens l) v 0=.e:=by
 unfold kidT;split
 ·rfl
 ·exact zav l
theorem zua {l:List Nd}(hl:zac l=true){p:Nat}(hp:p<l.length)(hv:1<(at_ l p).lv){k:Nat}(hk:k<4) :
  kidB l ((at_ l p).lv-1) (innK l (at_ l p) k)=true∧kidT (dens l) ((at_ l p).lv-1) (innK l (at_ l p) k)=((den l (p+1)).q k).q (3-k):=by
 have hf:=zaj (zad hl hp) hk;have h1:(at_ l p).lv≠1:=by omega
 rw[zaw hl hp,zdQ _ _ hk,zaB h1];unfold innK;rcases zaA h1 hf with e|⟨r,e,hr,hrl⟩
 ·rw[e,if_pos rfl,show(0:Int).toNat=0 from rfl,zav];exact⟨zlQ _ _,zeu _ _⟩
 ·rw[e,if_neg (by omega),show((r:Int)+1).toNat=r+1 by omega,show r+1-1=r by omega,zaw hl hr,zdQ _ _ (by omega),hrl];refine⟨?_,rfl⟩;have:=zaj (zad hl hr) (i:=3-k) (by omega)
  rwa [hrl] at this
theorem zma {l:List Nd}(hl:zac l=true){p:Nat}(hp:p<l.length)(hv:1<(at_ l p).lv)(hne:den l (p+1)≠.e):fitB l (innN l (at_ l p))=true∧norm (dens l) (innN l (at_ l p))=innT (den l (p+1)):=by
 have hlv:=zap (zad hl hp);have e:(den l (p+1)).lv=(at_ l p).lv:=by
  rw[zaw hl hp];exact zdY (by rw[←zaw hl hp];exact hne)
 have key:=fun {k:Nat} (hk:k<4)=>zua hl hp hv hk;refine⟨?_,?_⟩
 ·unfold fitB;rw[Bool.and_eq_true,zaV];exact⟨decide_eq_true (show 1≤(at_ l p).lv-1∧(at_ l p).lv-1≤1329 by omega),fun i hi=>by rw[zlZ _ _ hi];exact(key hi).1⟩
 ·unfold innT;rw[e];show mk ((at_ l p).lv-1) (kidT _ ((at_ l p).lv-1) (innK l (at_ l p) 0)) (kidT _ ((at_ l p).lv-1) (innK l (at_ l p) 1)) (kidT _ ((at_ l p).lv-1) (innK l (at_ l p) 2)) (kidT _ ((at_ l p).lv-1) (innK l (at_ l p) 3))=_;rw[(key (by omega:0<4)).2,(key (by omega:1<4)).2,(key (by omega:2<4)).2,(key (by omega:3<4)).2]
theorem zti {l:List Nd}(hl:zac l=true){p:Nat}(hp:p<l.length)(hh:holT (den l (p+1))=true):1<(at_ l p).lv∧den l (p+1)≠.e:=by
 have h1:=(zce.1 hh).1;have hne:den l (p+1)≠.e:=fun e=>by rw[e] at h1;exact absurd h1 (by simp[Tr.lv])
 refine⟨?_,hne⟩
 rwa [zaw hl hp,zdY (by rw[←zaw hl hp];exact hne)] at h1
theorem zrS {l:List Nd}(hl:zac l=true){p:Nat}(hp:p<l.length)(hh:holT (den l (p+1))=true) :
  zac (l++[innN l (at_ l p)])=true∧den (l++[innN l (at_ l p)]) (l.length+1)=innT (den l (p+1))∧innT (den l (p+1))≠.e∧shrT (innT (den l (p+1)))=shrT (den l (p+1)):=by
 obtain⟨hv,hne⟩:=zti hl hp hh;obtain⟨hf,hn⟩:=zma hl hp hv hne;exact⟨zfb hl hf,by rw[zdA];exact hn,ztf (zbv hl p hp) hh,(ziz hh).symm⟩
theorem zev {l:List Nd}{v k:Int}(h:kidB l v k=true)(hl:l.length≤1000000):in64 k:=by
 by_cases hv:v=1
 ·subst hv;rw[kidB,if_pos rfl,decide_eq_true_iff] at h;exact⟨by omega,by omega⟩
 ·rcases zaA hv h with rfl|⟨m,rfl,hm,_⟩
  ·exact⟨by omega,by omega⟩
  ·exact⟨by omega,by omega⟩
theorem zvk {l:List Nd}{x:Nd}(h:fitB l x=true)(hl:l.length≤1000000):x.wf:=by
 have hv:=zap h;exact⟨⟨by omega,by omega⟩,zev (zaj h (i:=0) (by omega)) hl,zev (zaj h (i:=1) (by omega)) hl,zev (zaj h (i:=2) (by omega)) hl,zev (zaj h (i:=3) (by omega)) hl⟩
end Go.Proofs.YtfjajpnfjjdnpaaGreatDoor

namespace Go.Proofs.YtfjajpnfjjdnpaaGreatDoor.Nds
def p2 (n:Nat):Int:=(2:Int)^n
theorem zfd:p2 0=1:=rfl
theorem zau (n:Nat):p2 (n+1)=p2 n+p2 n:=by
 unfold p2;rw[Int.pow_succ];omega
theorem zar:∀n,1≤p2 n
 | 0=>Int.le_refl 1
 | n+1=>by
  have:=zar n;rw[zau];omega
theorem zaM {m n:Nat}(h:m≤n):p2 m≤p2 n:=by
 induction n with
 | zero=>rw[show m=0 by omega];exact Int.le_refl _
 | succ n ih =>
  rcases Nat.lt_or_ge m (n+1) with h1|h1
  ·have h2:=ih (by omega);have h3:=zar n;rw[zau];omega
  ·rw[show m=n+1 by omega];exact Int.le_refl _
def zae:Tr→Int→Int→Int
 | .e,_,_=>0
 | .s k,x,y=>if x=0∧y=0 then k else 0
 | .n v a b c d,x,y =>
  if x<p2 (v.toNat-1) then (if y<p2 (v.toNat-1) then zae a x y else zae c x (y-p2 (v.toNat-1)))
  else (if y<p2 (v.toNat-1) then zae b (x-p2 (v.toNat-1)) y else zae d (x-p2 (v.toNat-1)) (y-p2 (v.toNat-1)))
theorem zbw (x y:Int):zae .e x y=0:=rfl
theorem zan:∀(t:Tr) (n:Nat) (x y:Int),wfT (n:Int) t→zae t x y≠0→0≤x∧x<p2 n∧0≤y∧y<p2 n
 | .e,_,_,_,_,h=>absurd rfl h
 | .s k,n,x,y,hw,h=>by
  unfold zae at h;have hn:(n:Int)=0:=hw.1;have:n=0:=by omega
  subst this;split at h
  ·rename_i hxy;rw[zfd];omega
  ·exact absurd rfl h
 | .n v a b c d,n,x,y,hw,h=>by
  obtain⟨hv,h1,h2,ha,hb,hc,hd,_⟩:=hw;subst hv;obtain⟨m,rfl⟩:∃m,n=m+1:=⟨n-1,by omega⟩;rw[show(((m+1:Nat):Int)-1)=(m:Int) by omega] at ha hb hc hd;have e:(((m+1:Nat):Int).toNat-1)=m:=by omega
  unfold zae at h;rw[e] at h;have hp:=zar m;rw[zau];split at h
  ·split at h
   ·have:=zan a m x y ha h;omega
   ·have:=zan c m _ _ hc h;omega
  ·split at h
   ·have:=zan b m _ _ hb h;omega
   ·have:=zan d m _ _ hd h;omega
theorem zcf {m:Nat}{a b c d:Tr}(ha:wfT (m:Int) a)(hb:wfT (m:Int) b)(hc:wfT (m:Int) c)(hd:wfT (m:Int) d)(x y:Int) :
    zae (.n ((m:Int)+1) a b c d) x y=zae a x y+zae b (x-p2 m) y+zae c x (y-p2 m)+zae d (x-p2 m) (y-p2 m):=by
  have e:(((m:Int)+1).toNat-1)=m:=by omega
  have hp:=zar m;have za:¬ (0≤x∧x<p2 m∧0≤y∧y<p2 m)→zae a x y=0:=fun h=>Classical.byContradiction fun h2=>h (zan a m x y ha h2);have zb:¬ (0≤x-p2 m∧x-p2 m<p2 m∧0≤y∧y<p2 m)→zae b (x-p2 m) y=0:=fun h=>Classical.byContradiction fun h2=>h (zan b m _ _ hb h2);have zc:¬ (0≤x∧x<p2 m∧0≤y-p2 m∧y-p2 m<p2 m)→zae c x (y-p2 m)=0:=fun h=>Classical.byContradiction fun h2=>h (zan c m _ _ hc h2);have zd:¬ (0≤x-p2 m∧x-p2 m<p2 m∧0≤y-p2 m∧y-p2 m<p2 m)→zae d (x-p2 m) (y-p2 m)=0:=fun h=>Classical.byContradiction fun h2=>h (zan d m _ _ hd h2);show(if x<p2 (((m:Int)+1).toNat-1) then (if y<p2 (((m:Int)+1).toNat-1) then zae a x y else zae c x (y-p2 (((m:Int)+1).toNat-1)))
    else (if y<p2 (((m:Int)+1).toNat-1) then zae b (x-p2 (((m:Int)+1).toNat-1)) y else zae d (x-p2 (((m:Int)+1).toNat-1)) (y-p2 (((m:Int)+1).toNat-1))))=_
  rw[e];split
  · split
    · rw[zb (by omega),zc (by omega),zd (by omega)]
      omega
    · rw[za (by omega),zb (by omega),zd (by omega)]
      omega
  · split
    · rw[za (by omega),zc (by omega),zd (by omega)]
      omega
    · rw[za (by omega),zb (by omega),zc (by omega)]
      omega
theorem wf_n {n:Nat}{v:Int}{a b c d:Tr}(hw:wfT (n:Int) (.n v a b c d)):∃m:Nat,n=m+1∧v=(m:Int)+1∧wfT (m:Int) a∧wfT (m:Int) b∧wfT (m:Int) c∧wfT (m:Int) d∧(n:Int)≤1329:=by
 obtain⟨hv,h1,h2,ha,hb,hc,hd,_⟩:=hw;refine⟨n-1,by omega,by omega,?_⟩;have e:((n-1:Nat):Int)=v-1:=by omega
 rw[e];exact⟨ha,hb,hc,hd,by omega⟩
theorem zaO:∀(t:Tr) (n:Nat),wfT (n:Int) t→t≠.e→∃x y,zae t x y≠0
 | .e,_,_,h=>absurd rfl h
 | .s k,n,hw,_=>⟨0,0,by
  have h1:zae (.s k) 0 0=k:=rfl;rw[h1];have:=hw.2.1;omega⟩
 | .n v a b c d,n,hw,_=>by
  obtain⟨m,rfl,rfl,ha,hb,hc,hd,_⟩:=wf_n hw;obtain⟨i,hi,hne⟩:=zlV hw;have hp:=zar m;have out:∀{t:Tr} {x y:Int},wfT (m:Int) t→¬ (0≤x∧x<p2 m∧0≤y∧y<p2 m)→zae t x y=0:=fun hw h=>Classical.byContradiction fun h2=>h (zan _ m _ _ hw h2)
  match i,hi with
  | 0,_ =>
   obtain⟨x,y,h⟩:=zaO a m ha hne;have hr:=zan a m x y ha h;refine⟨x,y,?_⟩;rw[zcf ha hb hc hd,out hb (by omega),out hc (by omega),out hd (by omega)];omega
  | 1,_ =>
   obtain⟨x,y,h⟩:=zaO b m hb hne;have hr:=zan b m x y hb h;refine⟨x+p2 m,y,?_⟩;rw[zcf ha hb hc hd,out ha (by omega),out hc (by omega),out hd (by omega),show x+p2 m-p2 m=x by omega];omega
  | 2,_ =>
   obtain⟨x,y,h⟩:=zaO c m hc hne;have hr:=zan c m x y hc h;refine⟨x,y+p2 m,?_⟩;rw[zcf ha hb hc hd,out ha (by omega),out hb (by omega),out hd (by omega),show y+p2 m-p2 m=y by omega];omega
  | 3,_ =>
   obtain⟨x,y,h⟩:=zaO d m hd hne;have hr:=zan d m x y hd h;refine⟨x+p2 m,y+p2 m,?_⟩;rw[zcf ha hb hc hd,out ha (by omega),out hb (by omega),out hc (by omega),show x+p2 m-p2 m=x by omega,show y+p2 m-p2 m=y by omega];omega
theorem zdj:∀(t u:Tr) (n:Nat),wfT (n:Int) t→wfT (n:Int) u→(∀x y,zae t x y=zae u x y)→t=u
 | .e,u,n,_,hu,h=>by
  refine Classical.byContradiction fun hne=>?_;obtain⟨x,y,h2⟩:=zaO u n hu (fun e=>hne e.symm);exact h2 (h x y).symm
 | .s k,u,n,ht,hu,h=>by
  have hn:(n:Int)=0:=ht.1;have h0:=h 0 0;have h1:zae (.s k) 0 0=k:=rfl;rw[h1] at h0;cases u with
  | e =>
   have:=ht.2.1;rw[zbw] at h0;omega
  | s k2 =>
   have h2:zae (.s k2) 0 0=k2:=rfl;rw[h2] at h0;rw[h0]
  | n v a b c d =>
   have:=hu.1;have:=hu.2.1;omega
 | .n v a b c d,u,n,ht,hu,h=>by
  obtain⟨m,rfl,rfl,ha,hb,hc,hd,_⟩:=wf_n ht;have hp:=zar m;have out:∀{t:Tr} {x y:Int},wfT (m:Int) t→¬ (0≤x∧x<p2 m∧0≤y∧y<p2 m)→zae t x y=0:=fun hw h=>Classical.byContradiction fun h2=>h (zan _ m _ _ hw h2);cases u with
  | e =>
   obtain⟨x,y,h2⟩:=zaO _ (m+1) ht (by simp);exact absurd (h x y) h2
  | s k2 =>
   have:=hu.1;omega
  | n v2 a2 b2 c2 d2 =>
   obtain⟨m2,hm,rfl,ha2,hb2,hc2,hd2,_⟩:=wf_n hu;have:m=m2:=by omega
   subst this;have h':∀x y,zae a x y+zae b (x-p2 m) y+zae c x (y-p2 m)+zae d (x-p2 m) (y-p2 m)=zae a2 x y+zae b2 (x-p2 m) y+zae c2 x (y-p2 m)+zae d2 (x-p2 m) (y-p2 m):=fun x y=>by
    rw[←zcf ha hb hc hd,←zcf ha2 hb2 hc2 hd2];exact h x y
   have ea:a=a2:=zdj a a2 m ha ha2 fun x y=>by
    by_cases hin:0≤x∧x<p2 m∧0≤y∧y<p2 m
    ·have h3:=h' x y;rw[out hb (by omega),out hc (by omega),out hd (by omega),out hb2 (by omega),out hc2 (by omega),out hd2 (by omega)] at h3;omega
    ·rw[out ha hin,out ha2 hin]
   have eb:b=b2:=zdj b b2 m hb hb2 fun x y=>by
    by_cases hin:0≤x∧x<p2 m∧0≤y∧y<p2 m
    ·have h3:=h' (x+p2 m) y;rw[show x+p2 m-p2 m=x by omega,out ha (by omega),out hc (by omega),out hd (by omega),out ha2 (by omega),out hc2 (by omega),out hd2 (by omega)] at h3;omega
    ·rw[out hb hin,out hb2 hin]
   have ec:c=c2:=zdj c c2 m hc hc2 fun x y=>by
    by_cases hin:0≤x∧x<p2 m∧0≤y∧y<p2 m
    ·have h3:=h' x (y+p2 m);rw[show y+p2 m-p2 m=y by omega,out ha (by omega),out hb (by omega),out hd (by omega),out ha2 (by omega),out hb2 (by omega),out hd2 (by omega)] at h3;omega
    ·rw[out hc hin,out hc2 hin]
   have ed:d=d2:=zdj d d2 m hd hd2 fun x y=>by
    by_cases hin:0≤x∧x<p2 m∧0≤y∧y<p2 m
    ·have h3:=h' (x+p2 m) (y+p2 m);rw[show x+p2 m-p2 m=x by omega,show y+p2 m-p2 m=y by omega,out ha (by omega),out hb (by omega),out hc (by omega),out ha2 (by omega),out hb2 (by omega),out hc2 (by omega)] at h3;omega
    ·rw[out hd hin,out hd2 hin]
   rw[ea,eb,ec,ed]
end Go.Proofs.YtfjajpnfjjdnpaaGreatDoor.Nds

namespace Go.Proofs.YtfjajpnfjjdnpaaGreatDoor.Nds
theorem zdZ {m:Nat}{a b c d:Tr}(ha:wfT (m:Int) a)(hb:wfT (m:Int) b)(hc:wfT (m:Int) c)(hd:wfT (m:Int) d)(x y:Int) :
  zae (mk ((m:Int)+1) a b c d) x y=zae a x y+zae b (x-p2 m) y+zae c x (y-p2 m)+zae d (x-p2 m) (y-p2 m):=by
 unfold mk;split
 ·rename_i h;obtain⟨rfl,rfl,rfl,rfl⟩:=zfN.1 h;rfl
 ·exact zcf ha hb hc hd x y
def offX (m i:Nat):Int:=match i with|1=>p2 m|3=>p2 m|_=>0
def offY (m i:Nat):Int:=match i with|2=>p2 m|3=>p2 m|_=>0
theorem zew {m:Nat}{t:Tr}(hw:wfT ((m:Int)+1) t){i:Nat}(hi:i<4){x y:Int}(h:zae (t.q i) x y≠0):zae t (x+offX m i) (y+offY m i)=zae (t.q i) x y:=by
 cases t with
 | e=>exact absurd rfl h
 | s k=>exact absurd rfl h
 | n v a b c d =>
  have hw':wfT (((m+1:Nat)):Int) (.n v a b c d):=hw;obtain⟨m',hm,rfl,ha,hb,hc,hd,_⟩:=wf_n hw';have:m=m':=by omega
  subst this;have hp:=zar m;have out:∀{t:Tr} {x y:Int},wfT (m:Int) t→¬ (0≤x∧x<p2 m∧0≤y∧y<p2 m)→zae t x y=0:=fun hw h=>Classical.byContradiction fun h2=>h (zan _ m _ _ hw h2)
  match i,hi with
  | 0,_ =>
   have hr:=zan a m x y ha h;show zae _ (x+0) (y+0)=zae a x y;rw[Int.add_zero,Int.add_zero,zcf ha hb hc hd,out hb (by omega),out hc (by omega),out hd (by omega)];omega
  | 1,_ =>
   have hr:=zan b m x y hb h;show zae _ (x+p2 m) (y+0)=zae b x y;rw[Int.add_zero,zcf ha hb hc hd,out ha (by omega),out hc (by omega),out hd (by omega),show x+p2 m-p2 m=x by omega];omega
  | 2,_ =>
   have hr:=zan c m x y hc h;show zae _ (x+0) (y+p2 m)=zae c x y;rw[Int.add_zero,zcf ha hb hc hd,out ha (by omega),out hb (by omega),out hd (by omega),show y+p2 m-p2 m=y by omega];omega
  | 3,_ =>
   have hr:=zan d m x y hd h;show zae _ (x+p2 m) (y+p2 m)=zae d x y;rw[zcf ha hb hc hd,out ha (by omega),out hb (by omega),out hc (by omega),show x+p2 m-p2 m=x by omega,show y+p2 m-p2 m=y by omega];omega
def zaz (t:Tr)(x y:Int):Int:=zae t (x+p2 (t.lv.toNat-1)) (y+p2 (t.lv.toNat-1))
theorem zfR {m:Nat}{t:Tr}(hw:wfT ((m:Int)+1) t){i:Nat}(hi:i<4)(h:∀j,j<4→j≠i→t.q j=.e)(x y:Int):zae t x y=zae (t.q i) (x-offX m i) (y-offY m i):=by
 cases t with
 | e=>rfl
 | s k =>
  have:=hw.1;omega
 | n v a b c d =>
  have hw':wfT (((m+1:Nat)):Int) (.n v a b c d):=hw;obtain⟨m',hm,rfl,ha,hb,hc,hd,_⟩:=wf_n hw';have:m=m':=by omega
  subst this;rw[zcf ha hb hc hd]
  match i,hi with
  | 0,_ =>
   have h1:b=.e:=h 1 (by omega) (by omega);have h2:c=.e:=h 2 (by omega) (by omega);have h3:d=.e:=h 3 (by omega) (by omega);subst h1 h2 h3;show _=zae a (x-0) (y-0);rw[Int.sub_zero,Int.sub_zero,zbw,zbw,zbw];omega
  | 1,_ =>
   have h1:a=.e:=h 0 (by omega) (by omega);have h2:c=.e:=h 2 (by omega) (by omega);have h3:d=.e:=h 3 (by omega) (by omega);subst h1 h2 h3;show _=zae b (x-p2 m) (y-0);rw[Int.sub_zero,zbw,zbw,zbw];omega
  | 2,_ =>
   have h1:a=.e:=h 0 (by omega) (by omega);have h2:b=.e:=h 1 (by omega) (by omega);have h3:d=.e:=h 3 (by omega) (by omega);subst h1 h2 h3;show _=zae c (x-0) (y-p2 m);rw[Int.sub_zero,zbw,zbw,zbw];omega
  | 3,_ =>
   have h1:a=.e:=h 0 (by omega) (by omega);have h2:b=.e:=h 1 (by omega) (by omega);have h3:c=.e:=h 2 (by omega) (by omega);subst h1 h2 h3;show _=zae d (x-p2 m) (y-p2 m);rw[zbw,zbw,zbw];omega
theorem zoX {n:Nat}{t:Tr}(hw:wfT (n:Int) t)(hh:holT t=true)(x y:Int):zaz (innT t) x y=zaz t x y:=by
 obtain⟨h1,h2⟩:=zce.1 hh;cases t with
 | e=>exact absurd h1 (by simp[Tr.lv])
 | s k=>exact absurd h1 (by simp[Tr.lv])
 | n v a b c d =>
  have hv1:1<v:=h1;obtain⟨m,rfl,rfl,ha,hb,hc,hd,_⟩:=wf_n hw;obtain⟨k,rfl⟩:∃k,m=k+1:=⟨m-1,by omega⟩;have ec:(((k+1:Nat)):Int)=(k:Int)+1:=by omega
  rw[ec] at ha hb hc hd;have h0:∀{i:Nat},i<4→∀j,j<4→j≠3-i→((Tr.n (((k+1:Nat):Int)+1) a b c d).q i).q j=.e:=fun hi j hj hne=>h2 _ hi j hj (by omega);have wq:∀{t:Tr} (i:Nat),wfT ((k:Int)+1) t→wfT (k:Int) (t.q i):=fun i hw=>by
   have:=wf_q hw i
   rwa [show(k:Int)+1-1=k by omega] at this
  have hne:=ztf hw hh;have e1:(innT (.n (((k+1:Nat):Int)+1) a b c d)).lv.toNat-1=k:=by
   rcases zlU (.n (((k+1:Nat):Int)+1) a b c d) with e|e
   ·exact absurd e hne
   ·rw[e];show(((k+1:Nat):Int)+1-1).toNat-1=k;omega
  have e2:(Tr.n (((k+1:Nat):Int)+1) a b c d).lv.toNat-1=k+1:=by
   show(((k+1:Nat):Int)+1).toNat-1=k+1;omega
  unfold zaz;rw[e1,e2];have ei:innT (.n (((k+1:Nat):Int)+1) a b c d)=mk ((k:Int)+1) (a.q 3) (b.q 2) (c.q 1) (d.q 0):=by
   unfold innT;show mk (((k+1:Nat):Int)+1-1) _ _ _ _=_;rw[show((k+1:Nat):Int)+1-1=(k:Int)+1 by omega];rfl
  rw[ei,zdZ (wq 3 ha) (wq 2 hb) (wq 1 hc) (wq 0 hd)];have wk:∀{t:Tr},wfT ((k:Int)+1) t→wfT (((k+1:Nat)):Int) t:=fun h=>by rw[ec];exact h
  rw[show(((k+1:Nat):Int)+1)=(((k+1:Nat)):Int)+1 from rfl,zcf (wk ha) (wk hb) (wk hc) (wk hd)];rw[zfR ha (i:=3) (by omega) (fun j hj hne=>h0 (i:=0) (by omega) j hj hne),zfR hb (i:=2) (by omega) (fun j hj hne=>h0 (i:=1) (by omega) j hj hne),zfR hc (i:=1) (by omega) (fun j hj hne=>h0 (i:=2) (by omega) j hj hne),zfR hd (i:=0) (by omega) (fun j hj hne=>h0 (i:=3) (by omega) j hj hne)];have ep:=zau k;show _=zae (a.q 3) (x+p2 (k+1)-p2 k) (y+p2 (k+1)-p2 k)+zae (b.q 2) (x+p2 (k+1)-p2 (k+1)-0) (y+p2 (k+1)-p2 k)+zae (c.q 1) (x+p2 (k+1)-p2 k) (y+p2 (k+1)-p2 (k+1)-0)+zae (d.q 0) (x+p2 (k+1)-p2 (k+1)-0) (y+p2 (k+1)-p2 (k+1)-0);rw[show x+p2 (k+1)-p2 k=x+p2 k by omega,show y+p2 (k+1)-p2 k=y+p2 k by omega,show x+p2 (k+1)-p2 (k+1)-0=x+p2 k-p2 k by omega,show y+p2 (k+1)-p2 (k+1)-0=y+p2 k-p2 k by omega]
theorem zoY {n:Nat}{t:Tr}(hw:wfT (n:Int) t)(x y:Int):zaz (shrT t) x y=zaz t x y:=by
 suffices h:∀(m n:Nat) (t:Tr),t.lv.toNat≤m→wfT (n:Int) t→zaz (shrT t) x y=zaz t x y from h _ n t (Nat.le_refl _) hw
 intro m
 induction m with
 | zero =>
  intro n t hm hw;have:holT t=false:=by
   cases hq:holT t
   ·rfl
   ·have:=(zce.1 hq).1;omega
  rw[zct this]
 | succ m ih =>
  intro n t hm hw;cases hq:holT t with
  | false=>rw[zct hq]
  | true =>
   have h1:=(zce.1 hq).1;have hw2:=zte hw hq;have hn:1≤n:=by
    obtain⟨_,h2,_⟩:=zvh hw (by omega);omega
   rw[show((n:Int)-1)=((n-1:Nat):Int) by omega] at hw2;rw[ziz hq,ih (n-1) _ ?_ hw2,zoX hw hq];rcases zlU t with e|e
   ·rw[e];exact Nat.zero_le _
   ·rw[e];omega
theorem zrT {m k:Nat}{t u:Tr}(ht:wfT (((m+1:Nat)):Int) t)(hu:wfT (((k+1+1:Nat)):Int) u)(hmk:m≤k)(hne:u≠.e)(h:∀x y,zaz t x y=zaz u x y)(htl:t.lv.toNat-1=m∨t=.e):holT u=true:=by
 have hul:u.lv=((k+1+1:Nat):Int):=by
  cases u with
  | e=>exact absurd rfl hne
  | s q =>
   have:=hu.1;omega
  | n v a b c d=>exact hu.1.symm
 rw[zce,hul];refine⟨by omega,fun i hi j hj hji=>Classical.byContradiction fun hq=>?_⟩;have hu1:wfT (((k+1:Nat):Int)+1) u:=hu;have hw1:wfT ((k:Int)+1) (u.q i):=by
  have:=wf_q hu i
  rwa [show(((k+1+1:Nat)):Int)-1=(k:Int)+1 by omega] at this
 have hw2:wfT (k:Int) ((u.q i).q j):=by
  have:=wf_q hw1 j
  rwa [show(k:Int)+1-1=k by omega] at this
 obtain⟨x,y,hxy⟩:=zaO _ k hw2 hq;have hr:=zan _ k x y hw2 hxy;have s1:=zew hw1 hj hxy;have s2:=zew hu1 hi (x:=x+offX k j) (y:=y+offY k j) (by rw[s1];exact hxy);rw[s1] at s2;have hp:=zar k;have ep:=zau k;have ht2:=h (x+offX k j+offX (k+1) i-p2 (k+1)) (y+offY k j+offY (k+1) i-p2 (k+1));unfold zaz at ht2;rw[hul,show(((k+1+1:Nat)):Int).toNat-1=k+1 by omega,show x+offX k j+offX (k+1) i-p2 (k+1)+p2 (k+1)=x+offX k j+offX (k+1) i by omega,show y+offY k j+offY (k+1) i-p2 (k+1)+p2 (k+1)=y+offY k j+offY (k+1) i by omega,s2] at ht2;rcases htl with htl|htl
 ·rw[htl] at ht2;have hin:=zan t (m+1) _ _ ht (by rw[ht2];exact hxy);have e1:=zau m;have e2:=zaM hmk
  match i,j,hi,hj with
  | 0,0,_,_=>simp only[offX,offY] at hin;omega
  | 0,1,_,_=>simp only[offX,offY] at hin;omega
  | 0,2,_,_=>simp only[offX,offY] at hin;omega
  | 0,3,_,_=>exact hji rfl
  | 1,0,_,_=>simp only[offX,offY] at hin;omega
  | 1,1,_,_=>simp only[offX,offY] at hin;omega
  | 1,2,_,_=>exact hji rfl
  | 1,3,_,_=>simp only[offX,offY] at hin;omega
  | 2,0,_,_=>simp only[offX,offY] at hin;omega
  | 2,1,_,_=>exact hji rfl
  | 2,2,_,_=>simp only[offX,offY] at hin;omega
  | 2,3,_,_=>simp only[offX,offY] at hin;omega
  | 3,0,_,_=>exact hji rfl
  | 3,1,_,_=>simp only[offX,offY] at hin;omega
  | 3,2,_,_=>simp only[offX,offY] at hin;omega
  | 3,3,_,_=>simp only[offX,offY] at hin;omega
 ·rw[htl] at ht2;exact hxy ht2.symm
theorem zoZ {n k:Nat}{t u:Tr}(ht:wfT (n:Int) t)(hu:wfT (k:Int) u)(hts:∀q,t≠.s q)(hus:∀q,u≠.s q)(hht:holT t=false)(hhu:holT u=false)(h:∀x y,zaz t x y=zaz u x y):t=u:=by
 have key:∀{t u:Tr} {n k:Nat},wfT (n:Int) t→wfT (k:Int) u→(∀q,t≠.s q)→(∀q,u≠.s q)→holT u=false→(∀x y,zaz t x y=zaz u x y)→n≤k→t=u:=by
  intro t u n k ht hu hts hus hhu h hnk;cases t with
  | s q=>exact absurd rfl (hts q)
  | e =>
   refine Classical.byContradiction fun hne=>?_;obtain⟨x,y,h2⟩:=zaO u k hu (fun e=>hne e.symm);have h3:=h (x-p2 (u.lv.toNat-1)) (y-p2 (u.lv.toNat-1));unfold zaz at h3;rw[show x-p2 (u.lv.toNat-1)+p2 (u.lv.toNat-1)=x by omega,show y-p2 (u.lv.toNat-1)+p2 (u.lv.toNat-1)=y by omega] at h3;exact h2 h3.symm
  | n v a b c d =>
   obtain⟨m,rfl,rfl,ha,hb,hc,hd,hm9⟩:=wf_n ht;have hlv:(Tr.n ((m:Int)+1) a b c d).lv.toNat-1=m:=by
    show((m:Int)+1).toNat-1=m;omega
   by_cases hue:u=.e
   ·subst hue;obtain⟨x,y,h2⟩:=zaO _ (m+1) ht (by simp);have h3:=h (x-p2 m) (y-p2 m);unfold zaz at h3;rw[hlv,show x-p2 m+p2 m=x by omega,show y-p2 m+p2 m=y by omega] at h3;exact absurd h3 h2
   ·rcases Nat.lt_or_ge (m+1) k with h1|h1
    ·obtain⟨q,rfl⟩:∃q,k=q+1+1:=⟨k-2,by omega⟩;rw[zrT ht hu (by omega) hue h (.inl hlv)] at hhu;cases hhu
    ·have:k=m+1:=by omega
     subst this;refine zdj _ u (m+1) ht hu fun x y=>?_;have hul:u.lv.toNat-1=m:=by
      cases u with
      | e=>exact absurd rfl hue
      | s q=>exact absurd rfl (hus q)
      | n v2 a2 b2 c2 d2 =>
       have e:((m+1:Nat):Int)=v2:=hu.1;show v2.toNat-1=m;omega
     have h3:=h (x-p2 m) (y-p2 m);unfold zaz at h3;rw[hlv,hul,show x-p2 m+p2 m=x by omega,show y-p2 m+p2 m=y by omega] at h3;exact h3
 rcases Nat.le_total n k with h1|h1
 ·exact key ht hu hts hus hhu h h1
 ·exact(key hu ht hus hts hht (fun x y=>(h x y).symm) h1).symm
end Go.Proofs.YtfjajpnfjjdnpaaGreatDoor.Nds

namespace Go.Proofs.YtfjajpnfjjdnpaaGreatDoor
open Nds
structure Cl where
 x:Int
 y:Int
 s:Int
def lk:List Cl→Int→Int→Int
 | [],_,_=>0
 | c :: l,x,y=>if c.x=x∧c.y=y then c.s else lk l x y
def sqB (X Y h:Int)(c:Cl):Bool:=decide (X≤c.x∧c.x<X+h∧Y≤c.y∧c.y<Y+h)
theorem zbf {X Y h:Int}{c:Cl}:sqB X Y h c=true↔X≤c.x∧c.x<X+h∧Y≤c.y∧c.y<Y+h:=by
 unfold sqB;rw[decide_eq_true_iff]
theorem zcK (X Y h:Int):∀(l:List Cl) (x y:Int),lk (l.filter (sqB X Y h)) x y=if X≤x∧x<X+h∧Y≤y∧y<Y+h then lk l x y else 0
 | [],x,y=>by
  show(0:Int)=if _ then 0 else 0
  split <;> rfl
 | c :: l,x,y=>by
  rw[List.filter_cons];by_cases hc:sqB X Y h c=true
  ·rw[if_pos hc];unfold lk;rw[zcK X Y h l x y];by_cases hxy:c.x=x∧c.y=y
   ·have:=zbf.1 hc;rw[if_pos hxy,if_pos hxy,if_pos (by rw[←hxy.1,←hxy.2];exact this)]
   ·rw[if_neg hxy,if_neg hxy]
  ·rw[if_neg hc,zcK X Y h l x y];by_cases hin:X≤x∧x<X+h∧Y≤y∧y<Y+h
   ·rw[if_pos hin,if_pos hin]
    conv=>rhs;unfold lk
    rw[if_neg (fun hxy=>hc (zbf.2 (by rw[hxy.1,hxy.2];exact hin)))]
   ·rw[if_neg hin,if_neg hin]
theorem ztj {X Y h:Int}:∀{l:List Cl},(∀c∈l,sqB X Y h c=true)→∀x y,¬ (X≤x∧x<X+h∧Y≤y∧y<Y+h)→lk l x y=0
 | [],_,_,_,_=>rfl
 | c :: l,hl,x,y,hn=>by
  unfold lk;rw[if_neg (fun hxy=>hn (by have:=zbf.1 (hl c (by simp));rw[hxy.1,hxy.2] at this;exact this)),ztj (fun c hc=>hl c (by simp[hc])) x y hn]
def Fine (l:List Cl):Prop:=(∀c∈l,1≤c.s∧c.s≤255)∧l.Pairwise (fun a b=>¬ (a.x=b.x∧a.y=b.y))
theorem Fine.filter {l:List Cl}(h:Fine l)(p:Cl→Bool):Fine (l.filter p) :=
 ⟨fun c hc=>h.1 c (List.mem_filter.1 hc).1,h.2.sublist List.filter_sublist⟩
def offI (h:Int)(i:Nat):Int:=match i with|1=>h|3=>h|_=>0
def offJ (h:Int)(i:Nat):Int:=match i with|2=>h|3=>h|_=>0
def zay:Nat→List Nd→Int→Int→List Cl→List Nd × Int
 | 0,out,_,_,l=>(out,match l with|[]=>0|c :: _=>c.s)
 | m+1,out,X,Y,l =>
  if l.isEmpty=true then (out,0) else
  let r0:=zay m out (X+offI (p2 m) 0) (Y+offJ (p2 m) 0) (l.filter (sqB (X+offI (p2 m) 0) (Y+offJ (p2 m) 0) (p2 m)))
  let r1:=zay m r0.1 (X+offI (p2 m) 1) (Y+offJ (p2 m) 1) (l.filter (sqB (X+offI (p2 m) 1) (Y+offJ (p2 m) 1) (p2 m)))
  let r2:=zay m r1.1 (X+offI (p2 m) 2) (Y+offJ (p2 m) 2) (l.filter (sqB (X+offI (p2 m) 2) (Y+offJ (p2 m) 2) (p2 m)))
  let r3:=zay m r2.1 (X+offI (p2 m) 3) (Y+offJ (p2 m) 3) (l.filter (sqB (X+offI (p2 m) 3) (Y+offJ (p2 m) 3) (p2 m)))
  (r3.1++[⟨(m:Int)+1,r0.2,r1.2,r2.2,r3.2⟩],((r3.1.length+1:Nat):Int))
structure Plc (m:Nat)(out:List Nd)(X Y:Int)(l:List Cl)(r:List Nd × Int):Prop where
 loose:zac r.1=true
 pre:out <+: r.1
 kid:kidB r.1 ((m:Int)+1) r.2=true
 wf:wfT (m:Int) (kidT (dens r.1) ((m:Int)+1) r.2)
 cells:∀x y,zae (kidT (dens r.1) ((m:Int)+1) r.2) x y=lk l (x+X) (y+Y)
theorem ziE {l m:List Nd}(h:l <+: m){v k:Int}(hk:kidB l v k=true):kidB m v k=true:=by
 by_cases hv:v=1
 ·subst hv;exact hk
 ·rcases zaA hv hk with rfl|⟨p,rfl,hp,hl⟩
  ·exact zej _ _ hv
  ·have:=h.length_le;rw[zgi _ _ _ hv (by omega),zoQ h hp];exact decide_eq_true hl
theorem zcL:∀(m:Nat) (out:List Nd) (X Y:Int) (l:List Cl),m≤1329→zac out=true→Fine l→(∀c∈l,sqB X Y (p2 m) c=true)→Plc m out X Y l (zay m out X Y l)
 | 0,out,X,Y,l,_,ho,hf,hs=>by
  cases l with
  | nil =>
   refine⟨ho,List.prefix_refl _,?_,trivial,fun x y=>rfl⟩;exact decide_eq_true (by omega)
  | cons c l =>
   have hc:=hf.1 c (by simp);have hsq:=zbf.1 (hs c (by simp));rw[zfd] at hsq;have hnil:l=[]:=by
    cases l with
    | nil=>rfl
    | cons d l =>
     have h1:=List.rel_of_pairwise_cons hf.2 (a':=d) (by simp);have h2:=zbf.1 (hs d (by simp));rw[zfd] at h2;exact absurd ⟨by omega,by omega⟩ h1
   subst hnil;have e:kidT (dens out) (((0:Nat):Int)+1) c.s=.s c.s:=by
    show st c.s=_;unfold st;rw[if_neg (by omega)]
   refine⟨ho,List.prefix_refl _,?_,?_,fun x y=>?_⟩
   ·exact decide_eq_true (show 0≤c.s∧c.s≤255 by omega)
   ·show wfT _ (kidT (dens out) (((0:Nat):Int)+1) c.s);rw[e];exact⟨rfl,hc.1,hc.2⟩
   ·show zae (kidT (dens out) (((0:Nat):Int)+1) c.s) x y=_;rw[e];show(if x=0∧y=0 then c.s else 0)=if c.x=x+X∧c.y=y+Y then c.s else 0
    by_cases h0:x=0∧y=0
    ·rw[if_pos h0,if_pos (by omega)]
    ·rw[if_neg h0,if_neg (by omega)]
 | m+1,out,X,Y,l,hm,ho,hf,hs=>by
  unfold zay;by_cases he:l.isEmpty=true
  ·rw[if_pos he];have:l=[]:=by simpa using he
   subst this;have hne:(((m+1:Nat)):Int)+1≠1:=by omega
   refine⟨ho,List.prefix_refl _,zej _ _ hne,?_,fun x y=>?_⟩
   ·show wfT _ (kidT (dens out) ((((m+1:Nat)):Int)+1) 0);rw[zeu];exact trivial
   ·show zae (kidT (dens out) ((((m+1:Nat)):Int)+1) 0) x y=_;rw[zeu];rfl
  ·rw[if_neg he];have hq:∀(i:Nat),∀c∈l.filter (sqB (X+offI (p2 m) i) (Y+offJ (p2 m) i) (p2 m)),sqB (X+offI (p2 m) i) (Y+offJ (p2 m) i) (p2 m) c=true:=fun i c hc=>(List.mem_filter.1 hc).2;have h0:=zcL m out (X+offI (p2 m) 0) (Y+offJ (p2 m) 0) _ (by omega) ho (hf.filter _) (hq 0);have h1:=zcL m _ (X+offI (p2 m) 1) (Y+offJ (p2 m) 1) _ (by omega) h0.loose (hf.filter _) (hq 1);have h2:=zcL m _ (X+offI (p2 m) 2) (Y+offJ (p2 m) 2) _ (by omega) h1.loose (hf.filter _) (hq 2);have h3:=zcL m _ (X+offI (p2 m) 3) (Y+offJ (p2 m) 3) _ (by omega) h2.loose (hf.filter _) (hq 3);obtain⟨r0,e0⟩:∃r,r=zay m out (X+offI (p2 m) 0) (Y+offJ (p2 m) 0) (l.filter (sqB (X+offI (p2 m) 0) (Y+offJ (p2 m) 0) (p2 m))):=⟨_,rfl⟩;rw[←e0] at h0 h1 h2 h3 ⊢;obtain⟨r1,e1⟩:∃r,r=zay m r0.1 (X+offI (p2 m) 1) (Y+offJ (p2 m) 1) (l.filter (sqB (X+offI (p2 m) 1) (Y+offJ (p2 m) 1) (p2 m))):=⟨_,rfl⟩;rw[←e1] at h1 h2 h3;obtain⟨r2,e2⟩:∃r,r=zay m r1.1 (X+offI (p2 m) 2) (Y+offJ (p2 m) 2) (l.filter (sqB (X+offI (p2 m) 2) (Y+offJ (p2 m) 2) (p2 m))):=⟨_,rfl⟩;rw[←e2] at h2 h3;obtain⟨r3,e3⟩:∃r,r=zay m r2.1 (X+offI (p2 m) 3) (Y+offJ (p2 m) 3) (l.filter (sqB (X+offI (p2 m) 3) (Y+offJ (p2 m) 3) (p2 m))):=⟨_,rfl⟩;rw[←e3] at h3;have e4:(let r1:=zay m r0.1 (X+offI (p2 m) 1) (Y+offJ (p2 m) 1) (l.filter (sqB (X+offI (p2 m) 1) (Y+offJ (p2 m) 1) (p2 m)));let r2:=zay m r1.1 (X+offI (p2 m) 2) (Y+offJ (p2 m) 2) (l.filter (sqB (X+offI (p2 m) 2) (Y+offJ (p2 m) 2) (p2 m)));let r3:=zay m r2.1 (X+offI (p2 m) 3) (Y+offJ (p2 m) 3) (l.filter (sqB (X+offI (p2 m) 3) (Y+offJ (p2 m) 3) (p2 m)));(r3.1++[(⟨(m:Int)+1,r0.2,r1.2,r2.2,r3.2⟩:Nd)],((r3.1.length+1:Nat):Int)))=(r3.1++[(⟨(m:Int)+1,r0.2,r1.2,r2.2,r3.2⟩:Nd)],((r3.1.length+1:Nat):Int)):=by
    simp only[←e1,←e2,←e3]
   show Plc (m+1) out X Y l (let r1:=zay m r0.1 (X+offI (p2 m) 1) (Y+offJ (p2 m) 1) (l.filter (sqB (X+offI (p2 m) 1) (Y+offJ (p2 m) 1) (p2 m)));let r2:=zay m r1.1 (X+offI (p2 m) 2) (Y+offJ (p2 m) 2) (l.filter (sqB (X+offI (p2 m) 2) (Y+offJ (p2 m) 2) (p2 m)));let r3:=zay m r2.1 (X+offI (p2 m) 3) (Y+offJ (p2 m) 3) (l.filter (sqB (X+offI (p2 m) 3) (Y+offJ (p2 m) 3) (p2 m)));(r3.1++[(⟨(m:Int)+1,r0.2,r1.2,r2.2,r3.2⟩:Nd)],((r3.1.length+1:Nat):Int)));rw[e4];have p32:=h3.pre;have p31:=h2.pre.trans p32;have p30:=h1.pre.trans p31;have k0:=ziE p30 h0.kid;have k1:=ziE p31 h1.kid;have k2:=ziE p32 h2.kid;have k3:=h3.kid;have d0:=zfO p30 h0.kid;have d1:=zfO p31 h1.kid;have d2:=zfO p32 h2.kid;obtain⟨x,hx⟩:∃x:Nd,x=⟨(m:Int)+1,r0.2,r1.2,r2.2,r3.2⟩:=⟨_,rfl⟩;have hfit:fitB r3.1 x=true:=by
    rw[hx];unfold fitB Nd.each;rw[decide_eq_true (show 1≤(m:Int)+1∧(m:Int)+1≤1329 by omega)];show(true&&(kidB r3.1 ((m:Int)+1) r0.2&&kidB r3.1 ((m:Int)+1) r1.2&&kidB r3.1 ((m:Int)+1) r2.2&&kidB r3.1 ((m:Int)+1) r3.2))=true;rw[k0,k1,k2,k3];rfl
   have hnorm:norm (dens r3.1) x=mk ((m:Int)+1) (kidT (dens r0.1) ((m:Int)+1) r0.2) (kidT (dens r1.1) ((m:Int)+1) r1.2) (kidT (dens r2.1) ((m:Int)+1) r2.2) (kidT (dens r3.1) ((m:Int)+1) r3.2):=by
    rw[hx,←d0,←d1,←d2];rfl
   have hne:(((m+1:Nat)):Int)+1≠1:=by omega
   rw[←hx];have hden:kidT (dens (r3.1++[x])) ((((m+1:Nat)):Int)+1) ((r3.1.length+1:Nat):Int)=norm (dens r3.1) x:=by
    rw[zaB hne,Int.toNat_natCast,zdA]
   have hp:=zar m;have ep:=zau m;refine⟨zfb h3.loose hfit,(h0.pre.trans p30).trans (List.prefix_append _ _),?_,?_,fun x' y'=>?_⟩
   ·show kidB (r3.1++[x]) ((((m+1:Nat)):Int)+1) ((r3.1.length+1:Nat):Int)=true;rw[show(((r3.1.length+1:Nat)):Int)=(r3.1.length:Int)+1 by omega,zgi _ _ _ hne (by simp),zfc];exact decide_eq_true (by rw[hx];show(m:Int)+1=_;omega)
   ·show wfT _ (kidT (dens (r3.1++[x])) ((((m+1:Nat)):Int)+1) ((r3.1.length+1:Nat):Int));rw[hden,hnorm];have hw:∀{t:Tr},wfT (m:Int) t→wfT ((m:Int)+1-1) t:=fun h=>by rwa [show(m:Int)+1-1=m by omega]
    exact ztS (by omega) (hw h0.wf) (hw h1.wf) (hw h2.wf) (hw h3.wf)
   ·show zae (kidT (dens (r3.1++[x])) ((((m+1:Nat)):Int)+1) ((r3.1.length+1:Nat):Int)) x' y'=_;rw[hden,hnorm,zdZ h0.wf h1.wf h2.wf h3.wf,h0.cells,h1.cells,h2.cells,h3.cells,zcK,zcK,zcK,zcK];simp only[offI,offJ];by_cases hin:X≤x'+X∧x'+X<X+p2 (m+1)∧Y≤y'+Y∧y'+Y<Y+p2 (m+1)
    ·by_cases hx1:x'<p2 m
     ·by_cases hy1:y'<p2 m
      ·rw[if_pos (by omega),if_neg (by omega),if_neg (by omega),if_neg (by omega),show x'+(X+0)=x'+X by omega,show y'+(Y+0)=y'+Y by omega];omega
      ·rw[if_neg (by omega),if_neg (by omega),if_pos (by omega),if_neg (by omega),show x'+(X+0)=x'+X by omega,show y'-p2 m+(Y+p2 m)=y'+Y by omega];omega
     ·by_cases hy1:y'<p2 m
      ·rw[if_neg (by omega),if_pos (by omega),if_neg (by omega),if_neg (by omega),show x'-p2 m+(X+p2 m)=x'+X by omega,show y'+(Y+0)=y'+Y by omega];omega
      ·rw[if_neg (by omega),if_neg (by omega),if_neg (by omega),if_pos (by omega),show x'-p2 m+(X+p2 m)=x'+X by omega,show y'-p2 m+(Y+p2 m)=y'+Y by omega];omega
    ·rw[if_neg (by omega),if_neg (by omega),if_neg (by omega),if_neg (by omega),ztj hs _ _ hin];rfl
theorem Cl.ext' {a b:Cl}(h1:a.x=b.x)(h2:a.y=b.y)(h3:a.s=b.s):a=b:=by
 cases a;cases b;simp_all
def ltC (a b:Cl):Prop:=a.y<b.y∨(a.y=b.y∧a.x<b.x)
def ltB (a b:Cl):Bool:=decide (a.y<b.y∨(a.y=b.y∧a.x<b.x))
theorem ziF {a b:Cl}:ltB a b=true↔ltC a b:=by
 unfold ltB;rw[decide_eq_true_iff];rfl
theorem zgA {a b c:Cl}(h:ltC a b)(k:ltC b c):ltC a c:=by
 unfold ltC at h k ⊢;omega
theorem zdR {a b:Cl}(h:ltC a b):¬ (a.x=b.x∧a.y=b.y):=by
 unfold ltC at h;omega
theorem zpa (a b:Cl):ltC a b∨(a.x=b.x∧a.y=b.y)∨ltC b a:=by
 unfold ltC;omega
def Srt (l:List Cl):Prop:=l.Pairwise ltC
theorem zdE {a:Cl}{l:List Cl}(h:Srt (a :: l)):(∀b∈l,ltC a b)∧Srt l:=⟨fun b hb=>List.rel_of_pairwise_cons h hb,(List.pairwise_cons.1 h).2⟩
theorem zcg:∀{l:List Cl} {x y:Int},(∀c∈l,¬ (c.x=x∧c.y=y))→lk l x y=0
 | [],_,_,_=>rfl
 | c :: l,x,y,h=>by
  unfold lk;rw[if_neg (h c (by simp)),zcg fun d hd=>h d (by simp[hd])]
theorem zhK:∀{l:List Cl} {c:Cl},Srt l→c∈l→lk l c.x c.y=c.s
 | a :: l,c,hs,hc=>by
  obtain⟨h1,h2⟩:=zdE hs;unfold lk;rcases List.mem_cons.1 hc with rfl|hc
  ·rw[if_pos ⟨rfl,rfl⟩]
  ·rw[if_neg (zdR (h1 c hc)),zhK h2 hc]
theorem zfS:∀{l m:List Cl},Srt l→Srt m→(∀c∈l,c.s≠0)→(∀c∈m,c.s≠0)→(∀x y,lk l x y=lk m x y)→l=m
 | [],[],_,_,_,_,_=>rfl
 | [],b :: m,_,hm,_,h0,h=>by
  have h1:=zhK hm (c:=b) (by simp);rw[←h] at h1;exact absurd h1.symm (h0 b (by simp))
 | a :: l,[],hl,_,h0,_,h=>by
  have h1:=zhK hl (c:=a) (by simp);rw[h] at h1;exact absurd h1.symm (h0 a (by simp))
 | a :: l,b :: m,hl,hm,h0,h1,h=>by
  obtain⟨l1,l2⟩:=zdE hl;obtain⟨m1,m2⟩:=zdE hm;have ha:=zhK hl (c:=a) (by simp);have hb:=zhK hm (c:=b) (by simp);have hxy:a.x=b.x∧a.y=b.y:=by
   rcases zpa a b with h2|h2|h2
   ·rw[h,zcg (l:=b :: m) (fun c hc e=>by
     rcases List.mem_cons.1 hc with rfl|hc
     ·exact zdR h2 ⟨e.1.symm,e.2.symm⟩
     ·exact zdR (zgA h2 (m1 c hc)) ⟨e.1.symm,e.2.symm⟩)] at ha
    exact absurd ha.symm (h0 a (by simp))
   ·exact h2
   ·rw[←h,zcg (l:=a :: l) (fun c hc e=>by
     rcases List.mem_cons.1 hc with rfl|hc
     ·exact zdR h2 ⟨e.1.symm,e.2.symm⟩
     ·exact zdR (zgA h2 (l1 c hc)) ⟨e.1.symm,e.2.symm⟩)] at hb
    exact absurd hb.symm (h1 b (by simp))
  have hs:a.s=b.s:=by
   rw[h,hxy.1,hxy.2] at ha;exact ha.symm.trans hb
  have e:a=b:=Cl.ext' hxy.1 hxy.2 hs;subst e;rw[zfS l2 m2 (fun c hc=>h0 c (by simp[hc])) (fun c hc=>h1 c (by simp[hc])) fun x y=>?_];have h2:=h x y;by_cases hc:a.x=x∧a.y=y
  ·rw[zcg (l:=l) (fun c hc2 e=>zdR (l1 c hc2) ⟨hc.1.trans e.1.symm,hc.2.trans e.2.symm⟩),zcg (l:=m) (fun c hc2 e=>zdR (m1 c hc2) ⟨hc.1.trans e.1.symm,hc.2.trans e.2.symm⟩)]
  ·unfold lk at h2
   rwa [if_neg hc,if_neg hc] at h2
theorem zrU {l:List Cl}(h:Srt l)(hs:∀c∈l,1≤c.s∧c.s≤255):Fine l:=⟨hs,h.imp fun h=>zdR h⟩
def insC:List Cl→Cl→List Cl
 | [],c=>[c]
 | a :: l,c=>if ltB a c=true then a :: insC l c else if a.x=c.x∧a.y=c.y then c :: l else c :: a :: l
theorem zkJ:∀{l:List Cl} {c d:Cl},d∈insC l c→d=c∨d∈l
 | [],c,d,h=>by
  unfold insC at h;exact .inl (List.mem_singleton.1 h)
 | a :: l,c,d,h=>by
  unfold insC at h;split at h
  ·rcases List.mem_cons.1 h with h|h
   ·exact .inr (by simp[h])
   ·rcases zkJ h with h|h
    ·exact .inl h
    ·exact .inr (by simp[h])
  ·split at h
   ·rcases List.mem_cons.1 h with h|h
    ·exact .inl h
    ·exact .inr (by simp[h])
   ·rcases List.mem_cons.1 h with h|h
    ·exact .inl h
    ·exact .inr h
theorem zpb:∀{l:List Cl} (c:Cl),Srt l→Srt (insC l c)
 | [],c,_=>List.pairwise_singleton _ _
 | a :: l,c,h=>by
  obtain⟨h1,h2⟩:=zdE h;unfold insC;split
  ·rename_i hlt;refine List.pairwise_cons.2 ⟨fun b hb=>?_,zpb c h2⟩;rcases zkJ hb with rfl|hb
   ·exact ziF.1 hlt
   ·exact h1 b hb
  ·rename_i hlt;split
   ·rename_i hxy;refine List.pairwise_cons.2 ⟨fun b hb=>?_,h2⟩;have h3:=h1 b hb;unfold ltC at h3 ⊢;omega
   ·rename_i hxy;have hca:ltC c a:=by
     rcases zpa a c with h3|h3|h3
     ·exact absurd (ziF.2 h3) hlt
     ·exact absurd h3 hxy
     ·exact h3
    refine List.pairwise_cons.2 ⟨fun b hb=>?_,h⟩;rcases List.mem_cons.1 hb with rfl|hb
    ·exact hca
    ·exact zgA hca (h1 b hb)
theorem ztk:∀{l:List Cl} (c:Cl),Srt l→∀x y,lk (insC l c) x y=if c.x=x∧c.y=y then c.s else lk l x y
 | [],c,_,x,y=>rfl
 | a :: l,c,h,x,y=>by
  obtain⟨h1,h2⟩:=zdE h;unfold insC;split
  ·rename_i hlt;have h3:=ziF.1 hlt;unfold lk;rw[ztk c h2 x y];by_cases ha:a.x=x∧a.y=y
   ·rw[if_pos ha,if_neg (fun e=>zdR h3 ⟨ha.1.trans e.1.symm,ha.2.trans e.2.symm⟩),if_pos ha]
   ·rw[if_neg ha,if_neg ha]
  ·split
   ·rename_i hxy;unfold lk;by_cases hc:c.x=x∧c.y=y
    ·rw[if_pos hc,if_pos hc]
    ·rw[if_neg hc,if_neg hc,if_neg (fun e=>hc ⟨hxy.1.symm.trans e.1,hxy.2.symm.trans e.2⟩)]
   ·rfl
def zdc (l:List Cl):List Cl:=l.foldl insC []
def ziG (l:List Cl)(x y:Int):Int:=l.foldl (fun s c=>if c.x=x∧c.y=y then c.s else s) 0
theorem zgB (l:List Cl)(c:Cl):zdc (l++[c])=insC (zdc l) c:=by
 unfold zdc;rw[List.foldl_append];rfl
theorem zhL (l:List Cl)(c:Cl)(x y:Int):ziG (l++[c]) x y=if c.x=x∧c.y=y then c.s else ziG l x y:=by
 unfold ziG;rw[List.foldl_append];rfl
theorem zkK (l:List Cl):Srt (zdc l)∧(∀x y,lk (zdc l) x y=ziG l x y)∧∀c∈zdc l,c∈l:=by
 suffices h:∀k,k≤l.length→Srt (zdc (l.take k))∧(∀x y,lk (zdc (l.take k)) x y=ziG (l.take k) x y)∧∀c∈zdc (l.take k),c∈l by
  have:=h l.length (Nat.le_refl _)
  rwa [List.take_of_length_le (Nat.le_refl _)] at this
 intro k
 induction k with
 | zero=>exact fun _=>⟨List.Pairwise.nil,fun x y=>rfl,fun c hc=>by cases hc⟩
 | succ k ih =>
  intro hk;obtain⟨i1,i2,i3⟩:=ih (by omega);rw[List.take_succ_eq_append_getElem (by omega),zgB];refine⟨zpb _ i1,fun x y=>?_,fun c hc=>?_⟩
  ·rw[ztk _ i1,zhL,i2]
  ·rcases zkJ hc with rfl|hc
   ·exact List.getElem_mem _
   ·exact i3 c hc
def zaP (l:List Cl):List Cl:=(zdc l).filter fun c=>c.s != 0
theorem zub:∀{l:List Cl},Srt l→∀x y,lk (l.filter fun c=>c.s != 0) x y=lk l x y
 | [],_,_,_=>rfl
 | c :: l,h,x,y=>by
  obtain⟨h1,h2⟩:=zdE h;rw[List.filter_cons];by_cases hc:(c.s != 0)=true
  ·rw[if_pos hc];unfold lk;rw[zub h2]
  ·rw[if_neg hc,zub h2];have h0:c.s=0:=by simpa using hc
   conv=>rhs;unfold lk
   by_cases hxy:c.x=x∧c.y=y
   ·rw[if_pos hxy,h0];exact zcg fun d hd e=>zdR (h1 d hd) ⟨hxy.1.trans e.1.symm,hxy.2.trans e.2.symm⟩
   ·rw[if_neg hxy]
theorem zbC (l:List Cl):Srt (zaP l)∧(∀x y,lk (zaP l) x y=ziG l x y)∧(∀c∈zaP l,c.s≠0∧c∈l):=by
 obtain⟨h1,h2,h3⟩:=zkK l;refine⟨h1.sublist List.filter_sublist,fun x y=>?_,fun c hc=>?_⟩
 ·unfold zaP;rw[zub h1,h2]
 ·obtain⟨h4,h5⟩:=List.mem_filter.1 hc;exact⟨by simpa using h5,h3 c h4⟩
end Go.Proofs.YtfjajpnfjjdnpaaGreatDoor

namespace Go.Proofs.YtfjajpnfjjdnpaaGreatDoor
open Go.RowKit Nds
structure Cv where
 sx:Bool
 ax:Option Addr
 cx:Nat
 xs:List Nat
 sy:Bool
 ay:Option Addr
 cy:Nat
 ys:List Nat
 st:Nat
def cv0:Cv:=⟨false,none,0,[],false,none,0,[],0⟩
def Cv.cl (v:Cv):Cl:=⟨ival v.sx v.xs,ival v.sy v.ys,v.st⟩
abbrev cvv (v:Cv):Value:=.agg #[.bool v.sx,.slice v.ax v.xs.length v.cx,.bool v.sy,.slice v.ay v.ys.length v.cy,.int .u8 v.st]
def CvAt (w:World)(b o:Nat)(v:Cv):Prop :=
 w.cell? ⟨b,o,none⟩=some (.bool v.sx)∧w.cell? ⟨b,o+1,none⟩=some (.slice v.ax v.xs.length v.cx)∧w.cell? ⟨b,o+2,none⟩=some (.bool v.sy)∧w.cell? ⟨b,o+3,none⟩=some (.slice v.ay v.ys.length v.cy)∧w.cell? ⟨b,o+4,none⟩=some (.int .u8 v.st)
def CvU (w:World)(v:Cv):Prop:=Us w v.ax v.cx v.xs∧Us w v.ay v.cy v.ys∧v.st≤255
def cat (l:List Cv)(i:Nat):Cv:=l[i]?.getD cv0
def Cs (w:World)(A:Option Addr)(c:Nat)(l:List Cv):Prop :=
 (∀v∈l,CvU w v)∧l.length≤c∧c≤maxLen∧(0<l.length→∃b off,A=some ⟨b,off,none⟩∧b<w.heap.size∧∀i,i<l.length→CvAt w b (off+i*5) (cat l i))
theorem zda {l:List Cv}{i:Nat}(h:i<l.length):cat l i∈l:=by
 unfold cat;rw[List.getElem?_eq_getElem h];exact List.getElem_mem h
theorem CvAt.below {w w':World}{b o:Nat}{v:Cv}(h:CvAt w b o v)(hb:w'.heap[b]?=w.heap[b]?):CvAt w' b o v:=by
 obtain⟨h1,h2,h3,h4,h5⟩:=h;exact⟨(World.cell?_of_block (w:=w) hb).trans h1,(World.cell?_of_block (w:=w) hb).trans h2,(World.cell?_of_block (w:=w) hb).trans h3,(World.cell?_of_block (w:=w) hb).trans h4,(World.cell?_of_block (w:=w) hb).trans h5⟩
theorem CvU.below {w w':World}{v:Cv}(h:CvU w v)(hb:Below w.heap.size w w'):CvU w' v:=⟨h.1.below hb,h.2.1.below hb,h.2.2⟩
theorem Cs.below {w w':World}{A:Option Addr}{c:Nat}{l:List Cv}(h:Cs w A c l)(hb:Below w.heap.size w w'):Cs w' A c l :=
 ⟨fun v hv=>(h.1 v hv).below hb,h.2.1,h.2.2.1,fun hn=>by
  obtain⟨b,off,e,hlt,hc⟩:=h.2.2.2 hn;exact⟨b,off,e,Nat.lt_of_lt_of_le hlt hb.size,fun i hi=>(hc i hi).below (hb.block b hlt)⟩⟩
theorem Cs.cap {w:World}{A:Option Addr}{c:Nat}{l:List Cv}(h:Cs w A c l):l.length≤c∧c≤9223372036854775807:=by
 have h1:=h.2.1;have h2:=h.2.2.1;simp only[maxLen] at h2;exact⟨h1,by omega⟩
theorem Cs.at_ {w:World}{A:Option Addr}{c:Nat}{l:List Cv}(h:Cs w A c l)(hn:0<l.length) :
  ∃b off,A=some ⟨b,off,none⟩∧b<w.heap.size∧∀i,i<l.length→CvAt w b (off+i*5) (cat l i):=h.2.2.2 hn
theorem CvAt.new (w:World)(v:Cv)(t:TypeId):CvAt (w.alloc (.cells #[.bool v.sx,.slice v.ax v.xs.length v.cx,.bool v.sy,.slice v.ay v.ys.length v.cy,.int .u8 v.st] t)) w.heap.size 0 v:=by
 have h:=heap_alloc_new w (.cells #[.bool v.sx,.slice v.ax v.xs.length v.cx,.bool v.sy,.slice v.ay v.ys.length v.cy,.int .u8 v.st] t);refine⟨?_,?_,?_,?_,?_⟩ <;> (rw[cell_of_row _ _ _ _ _ _ h];rfl)
def ordC (v u:Cv):Int:=if ordI (ival v.sy v.ys) (ival u.sy u.ys)=0 then ordI (ival v.sx v.xs) (ival u.sx u.xs) else ordI (ival v.sy v.ys) (ival u.sy u.ys)
theorem zex (v u:Cv)(w:World)(h:CvU w v)(k:CvU w u)(h1:v.xs.length≤60000)(h2:v.ys.length≤60000)(k1:u.xs.length≤60000)(k2:u.ys.length≤60000) :
  Calls Tryz.prog 154 #[cvv v,cvv u] w fun e w'=>e=.returned (.int .i64 (ordC v u))∧Below w.heap.size w w':=by
 have hv1:=h.1.cap;have hv2:=h.2.1.cap;have hu1:=k.1.cap;have hu2:=k.2.1.cap;obtain⟨W,hW⟩:∃W:World,W=(w.alloc (.cells #[.bool v.sx,.slice v.ax v.xs.length v.cx,.bool v.sy,.slice v.ay v.ys.length v.cy,.int .u8 v.st] 78)).alloc (.cells #[.bool u.sx,.slice u.ax u.xs.length u.cx,.bool u.sy,.slice u.ay u.ys.length u.cy,.int .u8 u.st] 78):=⟨_,rfl⟩;have hb:Below w.heap.size w W:=by rw[hW];exact((Below.refl _ w).alloc (Nat.le_refl _) _).alloc (by simp) _
 have HB:=Hh hb;have HV:=Hh (h.below hb);have HU:=Hh (k.below hb);have hbx:CvAt W w.heap.size 0 v:=by
  rw[hW];exact(CvAt.new w v _).below (Below.heap_alloc _ _ _ (by simp))
 have hby:CvAt W (w.heap.size+1) 0 u:=by
  rw[hW];have h1:=CvAt.new (w.alloc (.cells #[.bool v.sx,.slice v.ax v.xs.length v.cx,.bool v.sy,.slice v.ay v.ys.length v.cy,.int .u8 v.st] 78)) u 78
  rwa [show(w.alloc (.cells #[.bool v.sx,.slice v.ax v.xs.length v.cx,.bool v.sy,.slice v.ay v.ys.length v.cy,.int .u8 v.st] 78)).heap.size=w.heap.size+1 by simp] at h1
 have HBX:=Hh hbx;have HBY:=Hh hby;have HLT:=Hh (show w.heap.size+1<W.heap.size by rw[hW];simp);have q0:True:=trivial;obtain⟨R,hR⟩:∃R,R=ordC v u:=⟨_,rfl⟩;rw[←hR];have HR:=Hh hR;have HW:=Hh hW;by_cases hy:ordI (ival v.sy v.ys) (ival u.sy u.ys)=0
 ·have HY:=Hh hy;clear h k hb hbx hby hW hR hy;go_enter Tryz.func154,Tryz.ntmps154;go_wp2_with (first
   | (have _t:=q0;go_at_call 106;clear _t;go_loud (rw[←HW.out];refine(zaf _ _ _ _ _ _ _ _ _ HV.out.2.1 HU.out.2.1 h2 k2).mono ?_;rintro e w1 ⟨rfl,b1⟩;rw[HY.out];have HB1:=Hh b1;have HV1:=Hh (HV.out.below b1);have HU1:=Hh (HU.out.below b1);obtain⟨c1,c2,-,-,-⟩:=HBX.out.below (b1.block w.heap.size (by have:=HLT.out;omega));obtain⟨d1,d2,-,-,-⟩:=HBY.out.below (b1.block (w.heap.size+1) HLT.out);clear b1;have q1:=q0;clear q0))
   | (have _t:=q1;go_at_call 106;clear _t;go_loud (refine(zaf _ _ _ _ _ _ _ _ _ HV1.out.1 HU1.out.1 h1 k1).mono ?_;rintro e w2 ⟨rfl,b2⟩;have HB2:=Hh b2;clear b2;have q2:=q1;clear q1)))
  go_ret;refine⟨?_,HB.out.trans ((HB1.out.trans (HB2.out.mono HB1.out.size)).mono HB.out.size)⟩;rw[HR.out];unfold ordC;rw[if_pos HY.out];rfl
 ·obtain⟨r,hr⟩:∃r,r=ordI (ival v.sy v.ys) (ival u.sy u.ys):=⟨_,rfl⟩;rw[←hr] at hy;have HRY:=Hh hr;have HNE:=Hh hy;have t1:(r != 0)=true:=by rw[bne_iff_ne];exact hy
  clear h k hb hbx hby hW hR hy hr;go_enter Tryz.func154,Tryz.ntmps154;go_wp2_with (go_at_call 106;go_loud (rw[←HW.out];refine(zaf _ _ _ _ _ _ _ _ _ HV.out.2.1 HU.out.2.1 h2 k2).mono ?_;rintro e w1 ⟨rfl,b1⟩;rw[←HRY.out];have HB1:=Hh b1;clear b1));go_ret;refine⟨?_,HB.out.trans (HB1.out.mono HB.out.size)⟩;rw[HR.out];unfold ordC;rw[←HRY.out,if_neg HNE.out];rfl
end Go.Proofs.YtfjajpnfjjdnpaaGreatDoor
