import Derived.Test.YtfjajpnfjjdnpaaGreatDoorVClQ

set_option linter.unusedVariables false
set_option linter.unusedSimpArgs false
set_option maxRecDepth 100000
set_option maxHeartbeats 6400000
namespace Go.Proofs.YtfjajpnfjjdnpaaGreatDoor
open Nds
theorem ziA {l:List Cl}(h:l.Pairwise (fun a b=>¬ (a.x=b.x∧a.y=b.y)))(x y:Int):zhB l x y=lk l x y:=by
 suffices hk:∀k,k≤l.length→zhB (l.take k) x y=lk (l.take k) x y by
  have:=hk l.length (Nat.le_refl _)
  rwa [List.take_of_length_le (Nat.le_refl _)] at this
 intro k
 induction k with
 | zero=>exact fun _=>rfl
 | succ k ih =>
  intro hk;rw[List.take_succ_eq_append_getElem (by omega),zgM,ih (by omega),znQ];have hp:∀d∈l.take k,¬ (d.x=l[k].x∧d.y=l[k].y):=fun d hd=>by
   obtain⟨i,hi,rfl⟩:=List.getElem_of_mem hd;rw[List.length_take] at hi;rw[List.getElem_take];exact List.pairwise_iff_getElem.1 h i k _ _ (by omega)
  by_cases hc:l[k].x=x∧l[k].y=y
  ·rw[if_pos hc,if_neg (fun⟨d,hd,e⟩=>hp d hd ⟨e.1.trans hc.1.symm,e.2.trans hc.2.symm⟩)];unfold lk;rw[if_pos hc]
  ·rw[if_neg hc];by_cases hd:∃d∈l.take k,d.x=x∧d.y=y
   ·rw[if_pos hd]
   ·rw[if_neg hd,zfR fun d hd' e=>hd ⟨d,hd',e⟩];unfold lk;rw[if_neg hc];rfl
theorem znR (l:List Cl):Srt (zbo l):=(zeA l).1
theorem zqt (l:List Cl)(x y:Int):lk (zbo l) x y=zhB l x y:=(zeA l).2.1 x y
theorem zme {l:List Cl}(h:∀c∈l,0≤c.s∧c.s≤255):Fine (zbo l) :=
 zqn (znR l) fun c hc=>by
  obtain⟨h1,h2⟩:=(zeA l).2.2 c hc;have:=h c h2;omega
def zcr (L:List Cl)(out:List Nd):Prop :=
 ∃(t:Tr) (n:Nat),wfT (n:Int) t∧(∀k,t≠.s k)∧holT t=false∧out=(enc t []).1∧∀x y,zas t x y=lk L x y
theorem zmf {L M:List Cl}{a b:List Nd}(h:zcr L a)(k:zcr M b)(e:∀x y,lk L x y=lk M x y):a=b:=by
 obtain⟨t,n,h1,h2,h3,rfl,h5⟩:=h;obtain⟨u,m,k1,k2,k3,rfl,k5⟩:=k;rw[znL h1 k1 h2 k2 h3 k3 fun x y=>by rw[h5,k5,e]]
theorem zrE {t:Tr}{v:Int}(hw:wfT v t)(hs:∀k,t≠.s k):∃q:Nat,wfT (q:Int) t:=by
 cases t with
 | e=>exact⟨0,trivial⟩
 | s k=>exact absurd rfl (hs k)
 | n u a b c d =>
  have h1:=hw.1;have h2:=hw.2.1;exact⟨v.toNat,by rwa [show((v.toNat:Nat):Int)=v by omega]⟩
theorem zgO {l:List Nd}(hl:zac l=true){n:Nat}(hn:n≤l.length){L:List Cl}(h:∀x y,zas (den l n) x y=lk L x y):zcr L (OfL l n):=by
 obtain⟨v,h1,h2,h3⟩:=zqi hl hn;obtain⟨q,hq⟩:=zrE h1 h2;obtain⟨u,hu⟩:=zju hl hn;obtain⟨p,hp⟩:=zrE hu (fun k=>ziy);exact⟨_,q,hq,h2,h3,rfl,fun x y=>by rw[znK hp];exact h x y⟩
theorem zcr.den {L:List Cl}{out:List Nd}(h:zcr L out)(x y:Int):zas (den out out.length) x y=lk L x y:=by
 obtain⟨t,n,h1,h2,h3,rfl,h5⟩:=h;rw[←h5];by_cases he:t=.e
 ·subst he;show zas (Nds.den [] 0) x y=_;rw[zan]
 ·rw[(zqh h1 he h2).2.2]
def zqu (l:List Nd):List Cl:=zcI (den l l.length) (-(p2 ((at_ l (l.length-1)).lv.toNat-1))) (-(p2 ((at_ l (l.length-1)).lv.toNat-1)))
theorem ziB {l:List Nd}(hl:zac l=true):Fine (zqu l)∧∀x y,lk (zqu l) x y=zas (den l l.length) x y:=by
 unfold zqu;rcases Nat.eq_zero_or_pos l.length with h0|h0
 ·rw[h0,zan];exact⟨⟨fun c hc=>absurd hc (List.not_mem_nil),List.Pairwise.nil⟩,fun x y=>rfl⟩
 ·obtain⟨p,hp⟩:∃p,l.length=p+1:=⟨l.length-1,by omega⟩;rw[hp,Nat.add_sub_cancel];have hw:=zcn hl p (by omega);have hv:=zaq (zaf hl (i:=p) (by omega));obtain⟨n,hn⟩:∃n:Nat,(at_ l p).lv=(n:Int):=⟨_,(Int.toNat_of_nonneg (by omega)).symm⟩;rw[hn] at hw ⊢;rw[Int.toNat_natCast];obtain⟨h1,h2,h3⟩:=zcq (den l (p+1)) n (-(p2 (n-1))) (-(p2 (n-1))) hw;refine⟨h1,fun x y=>?_⟩;rw[h3];unfold zas;generalize den l (p+1)=t at hw;cases t with
  | e=>rfl
  | s k =>
   have:=hw.1;omega
  | n v a b c d =>
   have e:v=(n:Int):=hw.1.symm;subst e;show zad _ _ _=zad _ (x+p2 ((n:Int).toNat-1)) (y+p2 ((n:Int).toNat-1));rw[Int.toNat_natCast,show x - -(p2 (n-1))=x+p2 (n-1) by omega,show y - -(p2 (n-1))=y+p2 (n-1) by omega]
def zkS (l:List Nd):List Cl:=zbo (zqu l)
theorem zqv {l:List Nd}(hl:zac l=true)(x y:Int):lk (zkS l) x y=zas (den l l.length) x y:=by
 unfold zkS;rw[zqt,ziA (ziB hl).1.2,(ziB hl).2]
theorem zfV {l:List Nd}(hl:zac l=true):zcr (zkS l) (OfL l l.length):=zgO hl (Nat.le_refl _) fun x y=>(zqv hl x y).symm
theorem zkT:∀(l:List Cl) (c:Cl),(insC l c).length≤l.length+1
 | [],c=>Nat.le_refl _
 | a :: l,c=>by
  have h:=zkT l c;unfold insC;split
  ·rw[List.length_cons,List.length_cons];omega
  ·split
   ·rw[List.length_cons,List.length_cons];omega
   ·rw[List.length_cons,List.length_cons];omega
theorem zkU:∀(l m:List Cl),(l.foldl insC m).length≤m.length+l.length
 | [],m=>Nat.le_refl _
 | c :: l,m=>by
  have h:=zkU l (insC m c);have h2:=zkT m c;rw[List.foldl_cons,List.length_cons];omega
theorem zqw (l:List Cl):(zbo l).length≤l.length:=by
 unfold zbo zcH;have h:=zkU l [];have h2:=List.length_filter_le (fun c:Cl=>c.s != 0) (l.foldl insC []);simp only[List.length_nil,Nat.zero_add] at h;exact Nat.le_trans h2 h
end Go.Proofs.YtfjajpnfjjdnpaaGreatDoor

namespace Go.Proofs.YtfjajpnfjjdnpaaGreatDoor
open Go.RowKit Nds
theorem ztO {l:List Nd}{t:Tr}:∀(m:Nat) (cur:List Nd) (p:Nat),(at_ cur p).lv≤m→SS l t cur p→∃cur' p',SS l t cur' p'∧holT (den cur' (p'+1))=false:=by
 intro m
 induction m with
 | zero =>
  intro cur p hm h;have:=zaq (zaf h.1 h.2.1);omega
 | succ m ih =>
  intro cur p hm h;cases hh:holT (den cur (p+1)) with
  | false=>exact⟨cur,p,h,hh⟩
  | true =>
   refine ih _ _ ?_ (h.next hh);rw[zey];show(at_ cur p).lv-1≤_;omega
theorem zsB {l:List Nd}(hl:zac l=true){n:Nat}(hn:n≤l.length):(OfL l n).length≤l.length+1328:=by
 cases n with
 | zero =>
  unfold OfL;rw[zan,zsn];exact Nat.zero_le _
 | succ p =>
  by_cases he:den l (p+1)=.e
  ·unfold OfL;rw[he,zsn];exact Nat.zero_le _
  ·have hs:=SS.start hl (p:=p) (by omega) he;have hv:=zaq (zaf hl (i:=p) (by omega));obtain⟨cur,q,h1,h2⟩:=ztO 1329 l p hv.2 hs;have h3:=h1.len;have h4:=znI h1.1 (q+1) [] (by have:=h1.2.1;omega) (zjv cur);have h5:=h4.len;have h6:den cur (q+1)=shrT (den l (p+1)):=by rw[←h1.2.2.2.1,zcc h2]
   rw[h6] at h5;exact Nat.le_trans h5 h3
theorem zsC (l:List Nd)(k:Int):(ofQ l k).length≤l.length+1328:=by
 unfold ofQ;split
 ·rename_i h;unfold okB at h;rw[Bool.and_eq_true,decide_eq_true_iff] at h;exact zsB h.1 (by omega)
 ·exact Nat.zero_le _
end Go.Proofs.YtfjajpnfjjdnpaaGreatDoor

namespace Go.Proofs.YtfjajpnfjjdnpaaGreatDoor
open Nds
theorem zrF {l:List Nd}(hl:zac l=true):∀{m:Nat} {k:Int},kidB l ((m:Int)+1) k=true→wfT (m:Int) (kidT (dens l) ((m:Int)+1) k)
 | 0,k,hk=>by
  have h:kidB l 1 k=true:=hk;rw[zfb,decide_eq_true_iff] at h;exact ztH h
 | m+1,k,hk=>by
  have hne:(((m+1:Nat)):Int)+1≠1:=by omega
  rcases zaA hne hk with rfl|⟨p,rfl,hp,hlv⟩
  ·rw[zdU];trivial
  ·rw[zax hne,show((p:Int)+1).toNat=p+1 by omega];have h:=zcn hl p hp
   rwa [hlv,show(((m+1:Nat)):Int)+1-1=((m+1:Nat):Int) by omega] at h
theorem zba {t:Tr}{n:Nat}{x y:Int}(hw:wfT (n:Int) t)(h:¬ (0≤x∧x<p2 n∧0≤y∧y<p2 n)):zad t x y=0 :=
 Classical.byContradiction fun h2=>h (zal t n x y hw h2)
theorem zkV {l:List Nd}{x:Nd}{m:Nat}(h:x.lv=(m:Int)+1):norm (dens l) x=mk ((m:Int)+1) (kidT (dens l) ((m:Int)+1) (x.kid 0)) (kidT (dens l) ((m:Int)+1) (x.kid 1)) (kidT (dens l) ((m:Int)+1) (x.kid 2)) (kidT (dens l) ((m:Int)+1) (x.kid 3)):=by
 unfold norm;rw[h];rfl
end Go.Proofs.YtfjajpnfjjdnpaaGreatDoor

namespace Go.Proofs.YtfjajpnfjjdnpaaGreatDoor
open Go.RowKit Nds
def CvR (v:Cv):Prop:=zaE v.sx v.xs∧zaE v.sy v.ys∧v.xs.length≤60000∧v.ys.length≤60000
end Go.Proofs.YtfjajpnfjjdnpaaGreatDoor
