import Derived.Test.YtbabbmdpgpcgjaaGreatDoorHClQ

set_option linter.unusedVariables false
set_option linter.unusedSimpArgs false
set_option maxRecDepth 100000
set_option maxHeartbeats 6400000
namespace Go.Proofs.YtbabbmdpgpcgjaaGreatDoor
open Nds
theorem zkt:∀{l:List Cl} {x y:Int},lk l x y≠0→∃c∈l,c.x=x∧c.y=y∧c.s=lk l x y
 | [],_,_,h=>absurd rfl h
 | c :: l,x,y,h=>by
  by_cases hc:c.x=x∧c.y=y
  ·exact⟨c,by simp,hc.1,hc.2,by unfold lk;rw[if_pos hc]⟩
  ·have e:lk (c :: l) x y=lk l x y:=by
    conv=>lhs;unfold lk
    rw[if_neg hc]
   rw[e] at h ⊢;obtain⟨d,hd,h1⟩:=zkt h;exact⟨d,by simp[hd],h1⟩
theorem zhf:∀{l:List Cl},l.Pairwise (fun a b=>¬ (a.x=b.x∧a.y=b.y))→∀{c:Cl},c∈l→lk l c.x c.y=c.s
 | a :: l,h,c,hc=>by
  obtain⟨h1,h2⟩:=List.pairwise_cons.1 h;unfold lk;rcases List.mem_cons.1 hc with rfl|hc
  ·rw[if_pos ⟨rfl,rfl⟩]
  ·rw[if_neg (h1 c hc),zhf h2 hc]
theorem zqA {l m:List Cl}(hl:Fine l)(hm:Fine m)(h:∀x y,lk l x y=lk m x y):l.Perm m:=by
 have nd:∀{l:List Cl},Fine l→l.Nodup:=fun h=>h.2.imp fun {a b} h e=>h ⟨congrArg Cl.x e,congrArg Cl.y e⟩;have key:∀{l m:List Cl} {c:Cl},Fine l→Fine m→(∀x y,lk l x y=lk m x y)→c∈l→c∈m:=fun {l m c} hl hm h hc=>by
  have h1:=zhf hl.2 hc;rw[h] at h1;have h0:=(hl.1 c hc).1;obtain⟨d,hd,e1,e2,e3⟩:=zkt (l:=m) (x:=c.x) (y:=c.y) (by rw[h1];omega);have:c=d:=Cl.ext' e1.symm e2.symm (by rw[e3,h1]);rw[this];exact hd
 exact(List.perm_ext_iff_of_nodup (nd hl) (nd hm)).2 fun c=>⟨key hl hm h,key hm hl fun x y=>(h x y).symm⟩
theorem zwg {l m:List Cl}(hl:l.Pairwise (fun a b=>¬ (a.x=b.x∧a.y=b.y)))(hm:m.Pairwise (fun a b=>¬ (a.x=b.x∧a.y=b.y)))(h:l.Perm m)(x y:Int):lk l x y=lk m x y:=by
 by_cases he:∃c∈l,c.x=x∧c.y=y
 ·obtain⟨c,hc,rfl,rfl⟩:=he;rw[zhf hl hc,zhf hm (h.mem_iff.1 hc)]
 ·rw[zbr fun c hc e=>he ⟨c,hc,e⟩,zbr fun c hc e=>he ⟨c,h.mem_iff.2 hc,e⟩]
theorem zlX {l m:List Cl}(h:l.Perm m)(hl:l.Pairwise (fun a b=>¬ (a.x=b.x∧a.y=b.y))):m.Pairwise (fun a b=>¬ (a.x=b.x∧a.y=b.y)) :=
 (h.pairwise_iff (fun {a b} h e=>h ⟨e.1.symm,e.2.symm⟩)).1 hl
theorem zdG {l:List Cl}(h:l.Pairwise (fun a b=>¬ (a.x=b.x∧a.y=b.y)))(x y:Int):zfu l x y=lk l x y:=by
 suffices hk:∀k,k≤l.length→zfu (l.take k) x y=lk (l.take k) x y by
  have:=hk l.length (Nat.le_refl _)
  rwa [List.take_of_length_le (Nat.le_refl _)] at this
 intro k
 induction k with
 | zero=>exact fun _=>rfl
 | succ k ih =>
  intro hk;rw[List.take_succ_eq_append_getElem (by omega),zfv,ih (by omega),zqz];have hp:∀d∈l.take k,¬ (d.x=l[k].x∧d.y=l[k].y):=fun d hd=>by
   obtain⟨i,hi,rfl⟩:=List.getElem_of_mem hd;rw[List.length_take] at hi;rw[List.getElem_take];exact List.pairwise_iff_getElem.1 h i k _ _ (by omega)
  by_cases hc:l[k].x=x∧l[k].y=y
  ·rw[if_pos hc,if_neg (fun⟨d,hd,e⟩=>hp d hd ⟨e.1.trans hc.1.symm,e.2.trans hc.2.symm⟩)];unfold lk;rw[if_pos hc]
  ·rw[if_neg hc];by_cases hd:∃d∈l.take k,d.x=x∧d.y=y
   ·rw[if_pos hd]
   ·rw[if_neg hd,zbr fun d hd' e=>hd ⟨d,hd',e⟩];unfold lk;rw[if_neg hc];rfl
theorem zdH (l:List Cl):Srt (zaR l):=(zbx l).1
theorem zjq (l:List Cl)(x y:Int):lk (zaR l) x y=zfu l x y:=(zbx l).2.1 x y
theorem ztz {l m:List Cl}(hm:Srt m)(h0:∀c∈m,c.s≠0)(h:∀x y,zfu l x y=lk m x y):zaR l=m :=
 zed (zdH l) hm (fun c hc=>((zbx l).2.2 c hc).1) h0 fun x y=>by rw[zjq,h]
theorem zfx {l:List Cl}(h:∀c∈l,0≤c.s∧c.s≤255):Fine (zaR l) :=
 ztn (zdH l) fun c hc=>by
  obtain⟨h1,h2⟩:=(zbx l).2.2 c hc;have:=h c h2;omega
theorem zqB {l:List Cl}(h:Fine l):(zaR l).length=l.length :=
 (zqA (zfx fun c hc=>by have:=h.1 c hc;omega) h fun x y=>by rw[zjq,zdG h.2]).length_eq
theorem zfy {l:List Cl}(h:Srt l):l.Pairwise (fun a b=>¬ (a.x=b.x∧a.y=b.y)):=h.imp fun h=>zdt h
def zaW (L:List Cl)(out:List Nd):Prop :=
 ∃(t:Tr) (n:Nat),wfT (n:Int) t∧(∀k,t≠.s k)∧holT t=false∧out=(enc t []).1∧∀x y,zax t x y=lk L x y
theorem ziq {L M:List Cl}{a b:List Nd}(h:zaW L a)(k:zaW M b)(e:∀x y,lk L x y=lk M x y):a=b:=by
 obtain⟨t,n,h1,h2,h3,rfl,h5⟩:=h;obtain⟨u,m,k1,k2,k3,rfl,k5⟩:=k;rw[zqh h1 k1 h2 k2 h3 k3 fun x y=>by rw[h5,k5,e]]
theorem zvo {t:Tr}{v:Int}(hw:wfT v t)(hs:∀k,t≠.s k):∃q:Nat,wfT (q:Int) t:=by
 cases t with
 | e=>exact⟨0,trivial⟩
 | s k=>exact absurd rfl (hs k)
 | n u a b c d =>
  have h1:=hw.1;have h2:=hw.2.1;exact⟨v.toNat,by rwa [show((v.toNat:Nat):Int)=v by omega]⟩
theorem zop {l:List Nd}(hl:zai l=true){n:Nat}(hn:n≤l.length){L:List Cl}(h:∀x y,zax (den l n) x y=lk L x y):zaW L (OfL l n):=by
 obtain⟨v,h1,h2,h3⟩:=ztl hl hn;obtain⟨q,hq⟩:=zvo h1 h2;obtain⟨u,hu⟩:=zlN hl hn;obtain⟨p,hp⟩:=zvo hu (fun k=>zko);exact⟨_,q,hq,h2,h3,rfl,fun x y=>by rw[zqg hp];exact h x y⟩
theorem zaW.good {L:List Cl}{out:List Nd}(h:zaW L out):zas out:=by
 obtain⟨t,n,h1,h2,h3,rfl,h5⟩:=h;exact(zce _ _ [] h1 zdZ).good
theorem zaW.den {L:List Cl}{out:List Nd}(h:zaW L out)(x y:Int):zax (den out out.length) x y=lk L x y:=by
 obtain⟨t,n,h1,h2,h3,rfl,h5⟩:=h;rw[←h5];by_cases he:t=.e
 ·subst he;show zax (Nds.den [] 0) x y=_;rw[zbd]
 ·rw[(zni h1 he h2).2.2]
def zqC (l:List Nd):List Cl:=zcu (den l l.length) (-(p2 ((at_ l (l.length-1)).lv.toNat-1))) (-(p2 ((at_ l (l.length-1)).lv.toNat-1)))
theorem zeX {l:List Nd}(hl:zai l=true):Fine (zqC l)∧∀x y,lk (zqC l) x y=zax (den l l.length) x y:=by
 unfold zqC;rcases Nat.eq_zero_or_pos l.length with h0|h0
 ·rw[h0,zbd];exact⟨⟨fun c hc=>absurd hc (List.not_mem_nil),List.Pairwise.nil⟩,fun x y=>rfl⟩
 ·obtain⟨p,hp⟩:∃p,l.length=p+1:=⟨l.length-1,by omega⟩;rw[hp,Nat.add_sub_cancel];have hw:=zbY hl p (by omega);have hv:=zaH (zaq hl (i:=p) (by omega));obtain⟨n,hn⟩:∃n:Nat,(at_ l p).lv=(n:Int):=⟨_,(Int.toNat_of_nonneg (by omega)).symm⟩;rw[hn] at hw ⊢;rw[Int.toNat_natCast];obtain⟨h1,h2,h3⟩:=zcU (den l (p+1)) n (-(p2 (n-1))) (-(p2 (n-1))) hw;refine⟨h1,fun x y=>?_⟩;rw[h3];unfold zax;generalize den l (p+1)=t at hw;cases t with
  | e=>rfl
  | s k =>
   have:=hw.1;omega
  | n v a b c d =>
   have e:v=(n:Int):=hw.1.symm;subst e;show zae _ _ _=zae _ (x+p2 ((n:Int).toNat-1)) (y+p2 ((n:Int).toNat-1));rw[Int.toNat_natCast,show x - -(p2 (n-1))=x+p2 (n-1) by omega,show y - -(p2 (n-1))=y+p2 (n-1) by omega]
def zdv (l:List Nd):List Cl:=zaR (zqC l)
theorem zjr {l:List Nd}(hl:zai l=true)(x y:Int):lk (zdv l) x y=zax (den l l.length) x y:=by
 unfold zdv;rw[zjq,zdG (zeX hl).1.2,(zeX hl).2]
theorem zku (l:List Nd):Srt (zdv l):=zdH _
theorem zoq {l:List Nd}(hl:zai l=true):Fine (zdv l):=zfx fun c hc=>by
 have:=(zeX hl).1.1 c hc;omega
theorem zqD {l:List Nd}(hl:zai l=true):(zdv l).length=zaV (den l l.length):=by
 unfold zdv;rw[zqB (zeX hl).1];unfold zqC;exact zdF _ _ _
theorem zaW.cells {L:List Cl}{out:List Nd}(h:zaW L out)(hs:Srt L)(h0:∀c∈L,c.s≠0):zdv out=L :=
 zed (zku out) hs (fun c hc=>by have:=(zoq h.good.1).1 c hc;omega) h0 fun x y=>by rw[zjr h.good.1,h.den]
theorem zex {l:List Nd}(hl:zai l=true):zaW (zdv l) (OfL l l.length):=zop hl (Nat.le_refl _) fun x y=>(zjr hl x y).symm
end Go.Proofs.YtbabbmdpgpcgjaaGreatDoor

namespace Go.Proofs.YtbabbmdpgpcgjaaGreatDoor
open Go.RowKit Nds Num
theorem zeY {s:Bool}{xs:List Nat}{z:Int}(hc:zaC s xs)(hv:ival s xs=z)(h0 : -p2 1330≤z)(h1:z≤p2 1330):xs.length≤50:=by
 refine zcz hc hv 50 ?_;obtain⟨M,hM⟩:∃M,M=50:=⟨_,rfl⟩;obtain⟨N,hN⟩:∃N,N=1330:=⟨_,rfl⟩;rw[←hN] at h0 h1;have h2:(p2 N).natAbs<4294967296^M:=by
  unfold p2;rw[show((2:Int)^N).natAbs=2^N by rw[Int.natAbs_pow];rfl,show(4294967296:Nat)=2^32 by decide,←Nat.pow_mul];exact Nat.pow_lt_pow_right (by decide) (by omega)
 rw[←hM];omega
theorem ztA (n k:Nat):blen n≤k↔n<2^k:=by
 constructor
 ·intro h;exact Nat.lt_of_lt_of_le (zgz n) (Nat.pow_le_pow_right (by decide) h)
 ·intro h;by_cases h0:n=0
  ·subst h0;exact Nat.zero_le _
  ·have h1:=zgA h0;rcases Nat.lt_or_ge k (blen n) with h2|h2
   ·have h3:2^k≤2^(blen n-1):=Nat.pow_le_pow_right (by decide) (by omega);omega
   ·exact h2
def rcI (n:Int):Nat:=blen (if n<0 then -1-n else n).toNat
theorem zlY (k:Nat):p2 k=((2^k:Nat):Int):=by
 unfold p2;rw[Int.natCast_pow];rfl
theorem zkv (n:Int)(k:Nat):rcI n≤k↔-p2 k≤n∧n<p2 k:=by
 unfold rcI;rw[ztA,zlY];split <;> omega
end Go.Proofs.YtbabbmdpgpcgjaaGreatDoor
