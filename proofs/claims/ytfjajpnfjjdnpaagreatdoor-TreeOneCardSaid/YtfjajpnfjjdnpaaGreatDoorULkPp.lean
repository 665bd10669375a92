import Derived.Test.YtfjajpnfjjdnpaaGreatDoorUClRa

set_option linter.unusedVariables false
set_option linter.unusedSimpArgs false
set_option maxRecDepth 100000
set_option maxHeartbeats 6400000
namespace Go.Proofs.YtfjajpnfjjdnpaaGreatDoor
open Nds
theorem zfM {l:List Nd}(hl:zaa l=true):∀{m:Nat} {k:Int},kidB l ((m:Int)+1) k=true→wfT (m:Int) (kidT (dens l) ((m:Int)+1) k)
 | 0,k,hk=>by
  have h:kidB l 1 k=true:=hk;rw[zcD,decide_eq_true_iff] at h;exact zpv h
 | m+1,k,hk=>by
  have hne:(((m+1:Nat)):Int)+1≠1:=by omega
  rcases zax hne hk with rfl|⟨p,rfl,hp,hlv⟩
  ·rw[zaU];trivial
  ·rw[zap hne,show((p:Int)+1).toNat=p+1 by omega];have h:=zcx hl p hp
   rwa [hlv,show(((m+1:Nat)):Int)+1-1=((m+1:Nat):Int) by omega] at h
theorem zaB {t:Tr}{n:Nat}{x y:Int}(hw:wfT (n:Int) t)(h:¬ (0≤x∧x<p2 n∧0≤y∧y<p2 n)):zad t x y=0 :=
 Classical.byContradiction fun h2=>h (zas t n x y hw h2)
def qtI (h x y:Int):Nat:=(if x<h then 0 else 1)+(if y<h then 0 else 2)
def subI (h x:Int):Int:=if x<h then x else x-h
theorem zpG (h x y:Int):qtI h x y<4:=by
 unfold qtI;split <;> split <;> omega
def chK (x:Nd)(i:Nat)(u:Int):Nd:=match i with|0=>{ x with a:=u }|1=>{ x with b:=u }|2=>{ x with c:=u }|_=>{ x with d:=u }
theorem zju (x:Nd)(i:Nat)(u:Int):(chK x i u).lv=x.lv:=by
 unfold chK;split <;> rfl
theorem zgG (x:Nd){i:Nat}(hi:i<4)(u:Int){j:Nat}(hj:j<4):(chK x i u).kid j=if j=i then u else x.kid j:=by
 match i,hi,j,hj with
 | 0,_,0,_=>rfl
 | 0,_,1,_=>rfl
 | 0,_,2,_=>rfl
 | 0,_,3,_=>rfl
 | 1,_,0,_=>rfl
 | 1,_,1,_=>rfl
 | 1,_,2,_=>rfl
 | 1,_,3,_=>rfl
 | 2,_,0,_=>rfl
 | 2,_,1,_=>rfl
 | 2,_,2,_=>rfl
 | 2,_,3,_=>rfl
 | 3,_,0,_=>rfl
 | 3,_,1,_=>rfl
 | 3,_,2,_=>rfl
 | 3,_,3,_=>rfl
def zeT (m:Nat)(l:List Nd)(n:Int):Nd:=if n=0 then ⟨(m:Int)+1,0,0,0,0⟩ else at_ l (n-1).toNat
theorem zjv {l:List Nd}(hl:zaa l=true){m:Nat}(hm:m≤1328){n:Int}(hn:kidB l (((m+1:Nat))+1:Int) n=true):fitB l (zeT m l n)=true∧(zeT m l n).lv=(m:Int)+1∧kidT (dens l) (((m+1:Nat))+1:Int) n=norm (dens l) (zeT m l n):=by
 have hne:(((m+1:Nat)):Int)+1≠1:=by omega
 unfold zeT;rcases zax hne hn with rfl|⟨p,rfl,hp,hlv⟩
 ·rw[if_pos rfl,zaU];have hk:∀v:Int,1≤v→kidB l v 0=true:=fun v hv=>by
   by_cases h1:v=1
   ·rw[h1,zcD];rfl
   ·exact zbw _ _ h1
  refine⟨?_,rfl,?_⟩
  ·unfold fitB Nd.each;rw[decide_eq_true (show 1≤(m:Int)+1∧(m:Int)+1≤1329 by omega)];show(true&&(kidB l ((m:Int)+1) 0&&kidB l ((m:Int)+1) 0&&kidB l ((m:Int)+1) 0&&kidB l ((m:Int)+1) 0))=true;rw[hk _ (by omega)];rfl
  ·show _=mk _ (kidT (dens l) ((m:Int)+1) 0) (kidT (dens l) ((m:Int)+1) 0) (kidT (dens l) ((m:Int)+1) 0) (kidT (dens l) ((m:Int)+1) 0);rw[zaU];rfl
 ·rw[if_neg (by omega),show((p:Int)+1-1).toNat=p by omega];refine⟨zae hl hp,by omega,?_⟩;rw[zap hne,show((p:Int)+1).toNat=p+1 by omega,zak hl hp]
theorem zej {l:List Nd}{x:Nd}{m:Nat}(h:x.lv=(m:Int)+1):norm (dens l) x=mk ((m:Int)+1) (kidT (dens l) ((m:Int)+1) (x.kid 0)) (kidT (dens l) ((m:Int)+1) (x.kid 1)) (kidT (dens l) ((m:Int)+1) (x.kid 2)) (kidT (dens l) ((m:Int)+1) (x.kid 3)):=by
 unfold norm;rw[h];rfl
def getF:Nat→List Nd→Int→Int→Int→Int
 | 0,_,n,_,_=>n
 | m+1,l,n,x,y=>if n=0 then 0 else getF m l ((zeT m l n).kid (qtI (p2 m) x y)) (subI (p2 m) x) (subI (p2 m) y)
theorem zdy {l:List Nd}(hl:zaa l=true):∀{m:Nat} {n x y:Int},m≤1329→kidB l ((m:Int)+1) n=true→0≤x→x<p2 m→0≤y→y<p2 m→getF m l n x y=zad (kidT (dens l) ((m:Int)+1) n) x y
 | 0,n,x,y,_,hn,hx0,hx,hy0,hy=>by
  rw[zeK] at hx hy;obtain rfl:x=0:=by omega
  obtain rfl:y=0:=by omega
  show n=zad (st n) 0 0;unfold st;split
  ·rename_i h;rw[h];rfl
  ·rfl
 | m+1,n,x,y,hm,hn,hx0,hx,hy0,hy=>by
  obtain⟨h1,h2,h3⟩:=zjv hl (by omega) hn;have hw:∀i,i<4→wfT (m:Int) (kidT (dens l) ((m:Int)+1) ((zeT m l n).kid i)):=fun i hi=>zfM hl (by have:=zag h1 hi;rwa [h2] at this);have hk:∀i,i<4→kidB l ((m:Int)+1) ((zeT m l n).kid i)=true:=fun i hi=>by have:=zag h1 hi;rwa [h2] at this
  have hp:=zaH m;have hp1:=zaV m;unfold getF;rw[h3,zej h2,zch (hw 0 (by omega)) (hw 1 (by omega)) (hw 2 (by omega)) (hw 3 (by omega))];by_cases hn0:n=0
  ·rw[if_pos hn0];have e:zeT m l n=⟨(m:Int)+1,0,0,0,0⟩:=by unfold zeT;rw[if_pos hn0]
   rw[e];show(0:Int)=zad (kidT (dens l) _ 0) _ _+zad (kidT (dens l) _ 0) _ _+zad (kidT (dens l) _ 0) _ _+zad (kidT (dens l) _ 0) _ _;rw[zaU];rfl
  ·rw[if_neg hn0];unfold qtI subI;by_cases hx1:x<p2 m
   ·by_cases hy1:y<p2 m
    ·simp only[hx1,hy1,if_true];rw[zdy hl (by omega) (hk _ (by omega)) hx0 hx1 hy0 hy1,zaB (hw 1 (by omega)) (by omega),zaB (hw 2 (by omega)) (by omega),zaB (hw 3 (by omega)) (by omega)];simp
    ·simp only[hx1,hy1,if_true,if_false];rw[zdy hl (by omega) (hk _ (by omega)) hx0 hx1 (by omega) (by omega),zaB (hw 0 (by omega)) (by omega),zaB (hw 1 (by omega)) (by omega),zaB (hw 3 (by omega)) (by omega)];simp
   ·by_cases hy1:y<p2 m
    ·simp only[hx1,hy1,if_true,if_false];rw[zdy hl (by omega) (hk _ (by omega)) (by omega) (by omega) hy0 hy1,zaB (hw 0 (by omega)) (by omega),zaB (hw 2 (by omega)) (by omega),zaB (hw 3 (by omega)) (by omega)];simp
    ·simp only[hx1,hy1,if_false];rw[zdy hl (by omega) (hk _ (by omega)) (by omega) (by omega) (by omega) (by omega),zaB (hw 0 (by omega)) (by omega),zaB (hw 1 (by omega)) (by omega),zaB (hw 2 (by omega)) (by omega)];simp
theorem zgH {m:Nat}{t:Tr}(h:wfT ((m+1:Nat):Int) t)(x y:Int):zaR t x y=zad t (x+p2 m) (y+p2 m):=by
 cases t with
 | e=>rfl
 | s k =>
  have:=h.1;omega
 | n v a b c d =>
  have e:(((m+1:Nat)):Int)=v:=h.1;subst e;show zad _ _ _=_;rw[show(Tr.n ((m+1:Nat):Int) a b c d).lv.toNat-1=m from by show(((m+1:Nat)):Int).toNat-1=m;omega]
def wdK (l:List Nd)(t:Nd):Nat→List Nd × Nd
 | 0=>(l,⟨t.lv+1,0,0,0,0⟩)
 | k+1=>if t.kid k=0 then wdK l t k else ((wdK l t k).1++[chK ⟨t.lv,0,0,0,0⟩ (3-k) (t.kid k)],chK (wdK l t k).2 k (((wdK l t k).1.length+1:Nat):Int))
def zcZ (l:List Nd):List Nd:=(wdK l (at_ l (l.length-1)) 4).1++[(wdK l (at_ l (l.length-1)) 4).2]
def corT (m j:Nat)(K:Tr):Tr:=mk ((m:Int)+1) (if j=3 then K else .e) (if j=2 then K else .e) (if j=1 then K else .e) (if j=0 then K else .e)
theorem zqp (m j:Nat):corT m j .e=.e:=by
 unfold corT;simp only[ite_self];rfl
theorem zdz {m j:Nat}{K:Tr}(hK:wfT (m:Int) K)(hj:j<4)(u v:Int):zad (corT m j K) u v=zad K (u-offX m (3-j)) (v-offY m (3-j)):=by
 have we:wfT (m:Int) .e:=trivial;unfold corT
 match j,hj with
 | 0,_ =>
  rw[zch (by simpa using we) (by simpa using we) (by simpa using we) (by simpa using hK)];simp[zaL,offX,offY]
 | 1,_ =>
  rw[zch (by simpa using we) (by simpa using we) (by simpa using hK) (by simpa using we)];simp[zaL,offX,offY]
 | 2,_ =>
  rw[zch (by simpa using we) (by simpa using hK) (by simpa using we) (by simpa using we)];simp[zaL,offX,offY]
 | 3,_ =>
  rw[zch (by simpa using hK) (by simpa using we) (by simpa using we) (by simpa using we)];simp[zaL,offX,offY]
structure Wds (l:List Nd)(t:Nd)(m k:Nat)(o:List Nd)(x:Nd):Prop where
 loose:zaa o=true
 pre:l <+: o
 len:o.length≤l.length+k
 lv:x.lv=(m:Int)+1+1
 zero:∀j,j<4→k≤j→x.kid j=0
 kid:∀j,j<k→kidB o ((m:Int)+1+1) (x.kid j)=true∧kidT (dens o) ((m:Int)+1+1) (x.kid j)=corT m j (kidT (dens l) ((m:Int)+1) (t.kid j))
theorem kid0 (l:List Nd){v:Int}(hv:1≤v):kidB l v 0=true:=by
 by_cases h1:v=1
 ·rw[h1,zcD];rfl
 ·exact zbw _ _ h1
theorem zlE {l:List Nd}{t:Nd}{m:Nat}(hl:zaa l=true)(ht:fitB l t=true)(hlv:t.lv=(m:Int)+1)(hm:m≤1327):∀k,k≤4→Wds l t m k (wdK l t k).1 (wdK l t k).2
 | 0,_=>⟨hl,List.prefix_refl _,Nat.le_refl _,by show t.lv+1=_;rw[hlv],fun j hj _=>by
   match j,hj with
   | 0,_=>rfl
   | 1,_=>rfl
   | 2,_=>rfl
   | 3,_=>rfl,fun j hj=>by omega⟩
 | k+1,hk=>by
  have ih:=zlE hl ht hlv hm k (by omega);have hne:(m:Int)+1+1≠1:=by omega
  have hkt:kidB l ((m:Int)+1) (t.kid k)=true:=by have:=zag ht (i:=k) (by omega);rwa [hlv] at this
  unfold wdK;obtain⟨o,ho⟩:∃o,o=(wdK l t k).1:=⟨_,rfl⟩;obtain⟨x,hx⟩:∃x,x=(wdK l t k).2:=⟨_,rfl⟩;rw[←ho,←hx] at ih;by_cases h0:t.kid k=0
  ·rw[if_pos h0,←ho,←hx];refine⟨ih.loose,ih.pre,Nat.le_succ_of_le ih.len,ih.lv,fun j hj hkj=>ih.zero j hj (by omega),fun j hj=>?_⟩;rcases Nat.lt_or_ge j k with h1|h1
   ·exact ih.kid j h1
   ·obtain rfl:j=k:=by omega
    rw[ih.zero j (by omega) (Nat.le_refl _),h0,zaU,zaU,zqp];exact⟨zbw _ _ hne,rfl⟩
  ·rw[if_neg h0,←ho,←hx];obtain⟨c,hc⟩:∃c,c=chK ⟨t.lv,0,0,0,0⟩ (3-k) (t.kid k):=⟨_,rfl⟩;rw[←hc];have hclv:c.lv=(m:Int)+1:=by rw[hc,zju];exact hlv
   have hck:∀j,j<4→c.kid j=if j=3-k then t.kid k else 0:=fun j hj=>by
    rw[hc,zgG _ (by omega) _ hj];split
    ·rfl
    ·match j,hj with
     | 0,_=>rfl
     | 1,_=>rfl
     | 2,_=>rfl
     | 3,_=>rfl
   have hcf:fitB o c=true:=by
    have h1:∀j,j<4→kidB o ((m:Int)+1) (c.kid j)=true:=fun j hj=>by
     rw[hck j hj];split
     ·exact zdr ih.pre hkt
     ·exact kid0 _ (by omega)
    unfold fitB Nd.each;rw[hclv,decide_eq_true (show 1≤(m:Int)+1∧(m:Int)+1≤1329 by omega)];show(true&&(kidB o ((m:Int)+1) (c.kid 0)&&kidB o ((m:Int)+1) (c.kid 1)&&kidB o ((m:Int)+1) (c.kid 2)&&kidB o ((m:Int)+1) (c.kid 3)))=true;rw[h1 0 (by omega),h1 1 (by omega),h1 2 (by omega),h1 3 (by omega)];rfl
   have hcn:norm (dens o) c=corT m k (kidT (dens l) ((m:Int)+1) (t.kid k)):=by
    have h1:∀j,j<4→kidT (dens o) ((m:Int)+1) (c.kid j)=if j=3-k then kidT (dens l) ((m:Int)+1) (t.kid k) else .e:=fun j hj=>by
     rw[hck j hj];split
     ·exact zcH ih.pre hkt
     ·exact zaU _ _
    rw[zej hclv,h1 0 (by omega),h1 1 (by omega),h1 2 (by omega),h1 3 (by omega)];unfold corT;have hk4:k=0∨k=1∨k=2∨k=3:=by omega
    rcases hk4 with rfl|rfl|rfl|rfl <;> rfl
   refine⟨zbR ih.loose hcf,ih.pre.trans (List.prefix_append _ _),?_,by rw[zju,ih.lv],fun j hj hkj=>?_,fun j hj=>?_⟩
   ·rw[List.length_append,List.length_singleton];have:=ih.len;omega
   ·rw[zgG _ (by omega) _ hj,if_neg (by omega)];exact ih.zero j hj (by omega)
   ·rw[zgG _ (by omega) _ (by omega)];by_cases hjk:j=k
    ·subst hjk;rw[if_pos rfl,show(((o.length+1:Nat)):Int)=(o.length:Int)+1 by omega];refine⟨?_,?_⟩
     ·rw[zbx _ _ _ hne (by simp),zbC];exact decide_eq_true (by rw[hclv];omega)
     ·rw[zap hne,show((o.length:Int)+1).toNat=o.length+1 by omega,zbK,hcn]
    ·rw[if_neg hjk];obtain⟨h1,h2⟩:=ih.kid j (by omega);exact⟨zdr (List.prefix_append _ _) h1,by rw[zcH (List.prefix_append _ _) h1,h2]⟩
structure Wis (l:List Nd)(m:Nat)(g:List Nd):Prop where
 loose:zaa g=true
 pre:l <+: g
 pos:0<g.length
 lv:(at_ g (g.length-1)).lv=(m:Int)+1
 cells:∀x y,zaR (den g g.length) x y=zaR (den l l.length) x y
theorem zhw {l:List Nd}{m:Nat}(hl:zaa l=true)(h0:0<l.length)(hlv:(at_ l (l.length-1)).lv=(m:Int)+1)(hm:m≤1327):Wis l (m+1) (zcZ l)∧(zcZ l).length≤l.length+5:=by
 obtain⟨p,hp⟩:∃p,l.length=p+1:=⟨l.length-1,by omega⟩;have ht:=zae hl (i:=l.length-1) (by omega);have hw:=zlE hl ht hlv hm 4 (Nat.le_refl _);unfold zcZ;obtain⟨t,hte⟩:∃t,t=at_ l (l.length-1):=⟨_,rfl⟩
 rw[←hte] at ht hlv hw ⊢;obtain⟨o,ho⟩:∃o,o=(wdK l t 4).1:=⟨_,rfl⟩;obtain⟨x,hx⟩:∃x,x=(wdK l t 4).2:=⟨_,rfl⟩;rw[←ho,←hx] at hw ⊢;have hkt:∀j,j<4→wfT (m:Int) (kidT (dens l) ((m:Int)+1) (t.kid j)):=fun j hj=>zfM hl (by have:=zag ht hj;rwa [hlv] at this);have hxl:x.lv=((m+1:Nat):Int)+1:=by rw[hw.lv];omega
 have hxk:∀j,j<4→kidB o (((m+1:Nat):Int)+1) (x.kid j)=true∧kidT (dens o) (((m+1:Nat):Int)+1) (x.kid j)=corT m j (kidT (dens l) ((m:Int)+1) (t.kid j)):=fun j hj=>by
  have h:=hw.kid j hj
  rwa [show(m:Int)+1+1=((m+1:Nat):Int)+1 by omega] at h
 have hfit:fitB o x=true:=by
  unfold fitB Nd.each;rw[hxl,decide_eq_true (show 1≤((m+1:Nat):Int)+1∧((m+1:Nat):Int)+1≤1329 by omega)];show(true&&(kidB o (((m+1:Nat):Int)+1) (x.kid 0)&&kidB o (((m+1:Nat):Int)+1) (x.kid 1)&&kidB o (((m+1:Nat):Int)+1) (x.kid 2)&&kidB o (((m+1:Nat):Int)+1) (x.kid 3)))=true;rw[(hxk 0 (by omega)).1,(hxk 1 (by omega)).1,(hxk 2 (by omega)).1,(hxk 3 (by omega)).1];rfl
 have hlo:=zbR hw.loose hfit;have hlen:(o++[x]).length=o.length+1:=by simp
 refine⟨⟨hlo,hw.pre.trans (List.prefix_append _ _),by rw[hlen];omega,by rw[hlen,Nat.add_sub_cancel,zbC,hxl],fun a b=>?_⟩,by have:=hw.len;rw[hlen];omega⟩;have hwt:=zcx hlo o.length (by rw[hlen];omega);rw[zbC,hxl,show((m+1:Nat):Int)+1=((m+1+1:Nat):Int) by omega] at hwt;have hwl:=zcx hl p (by omega);have e1:(at_ l p).lv=((m+1:Nat):Int):=by
  rw[show p=l.length-1 by omega,←hte,hlv];omega
 rw[e1] at hwl;have ec:∀j,j<4→wfT ((m+1:Nat):Int) (kidT (dens o) (((m+1:Nat):Int)+1) (x.kid j)):=fun j hj=>zfM hw.loose (hxk j hj).1;rw[hlen,zgH hwt,hp,zgH hwl,zbK,zej hxl,zch (ec 0 (by omega)) (ec 1 (by omega)) (ec 2 (by omega)) (ec 3 (by omega)),(hxk 0 (by omega)).2,(hxk 1 (by omega)).2,(hxk 2 (by omega)).2,(hxk 3 (by omega)).2,
  zdz (hkt 0 (by omega)) (by omega),zdz (hkt 1 (by omega)) (by omega),zdz (hkt 2 (by omega)) (by omega),zdz (hkt 3 (by omega)) (by omega),zak hl (by omega),show at_ l p=t by rw[hte,hp];rfl,zej hlv,zch (hkt 0 (by omega)) (hkt 1 (by omega)) (hkt 2 (by omega)) (hkt 3 (by omega))]
 have ep:=zaH m;show zad _ (_-p2 m) (_-p2 m)+zad _ (_-0) (_-p2 m)+zad _ (_-p2 m) (_-0)+zad _ (_-0) (_-0)=_;rw[show a+p2 (m+1)-p2 m=a+p2 m by omega,show b+p2 (m+1)-p2 m=b+p2 m by omega,show a+p2 (m+1)-p2 (m+1)-0=a+p2 m-p2 m by omega,show b+p2 (m+1)-p2 (m+1)-0=b+p2 m-p2 m by omega]
def zfk:Nat→List Nd→List Nd
 | 0,l=>l
 | d+1,l=>zfk d (zcZ l)
theorem zdA:∀(d:Nat) {l:List Nd} {m:Nat},zaa l=true→0<l.length→(at_ l (l.length-1)).lv=(m:Int)+1→m+d≤1328→Wis l (m+d) (zfk d l)∧(zfk d l).length≤l.length+5*d
 | 0,l,m,hl,h0,hlv,_=>⟨⟨hl,List.prefix_refl _,h0,hlv,fun _ _=>rfl⟩,Nat.le_refl _⟩
 | d+1,l,m,hl,h0,hlv,hm=>by
  obtain⟨w1,w2⟩:=zhw hl h0 hlv (by omega);obtain⟨g1,g2⟩:=zdA d w1.loose w1.pos w1.lv (by omega);unfold zfk;rw[show m+(d+1)=m+1+d by omega];exact⟨⟨g1.loose,w1.pre.trans g1.pre,g1.pos,g1.lv,fun x y=>by rw[g1.cells,w1.cells]⟩,by omega⟩
def QS (q:List Nd):Prop:=zaa q=true∧OfL q q.length=q
theorem QS.quad {q:List Nd}(h:QS q):zcQ q=true:=by
 have h1:=zjf h.1 (Nat.le_refl _)
 rwa [h.2] at h1
theorem zpH {l:List Nd}(hl:zaa l=true){n:Nat}(hn:n≤l.length):QS (OfL l n):=⟨zdM (zjf hl hn),zmZ hl hn⟩
theorem zpI:QS []:=zpH (l:=[]) rfl (Nat.le_refl 0)
theorem zpJ {a b:List Nd}(ha:QS a)(hb:QS b)(h:∀x y,zaR (den a a.length) x y=zaR (den b b.length) x y):a=b:=by
 have h1:=zls ha.1 hb.1 (Nat.le_refl _) (Nat.le_refl _) h
 rwa [ha.2,hb.2] at h1
end Go.Proofs.YtfjajpnfjjdnpaaGreatDoor

namespace Go.Proofs.YtfjajpnfjjdnpaaGreatDoor
open Go.RowKit Num Nds
def getQ (q:List Nd)(X Y:Int):Int:=zaR (den q q.length) X Y
end Go.Proofs.YtfjajpnfjjdnpaaGreatDoor

namespace Go.Proofs.YtfjajpnfjjdnpaaGreatDoor
open Go.RowKit Nds
theorem zek {l:List Nd}{t:Nd}{k:Nat}(h:t.kid k=0):wdK l t (k+1)=wdK l t k:=if_pos h
theorem zel {l:List Nd}{t:Nd}{k:Nat}(h:t.kid k≠0):wdK l t (k+1)=((wdK l t k).1++[chK ⟨t.lv,0,0,0,0⟩ (3-k) (t.kid k)],chK (wdK l t k).2 k (((wdK l t k).1.length+1:Nat):Int)):=if_neg h
theorem zim (l:List Nd)(t:Nd):∀k,(wdK l t k).1.length≤l.length+k
 | 0=>Nat.le_refl _
 | k+1=>by
  have:=zim l t k;by_cases h:t.kid k=0
  ·rw[zek h];omega
  ·rw[zel h];simp;omega
theorem zoe {x:Nd}(h:x.wf)(k:Nat){u:Int}(hu:in64 u):(chK x k u).wf:=by
 obtain⟨h0,h1,h2,h3,h4⟩:=h
 match k with
 | 0=>exact⟨h0,hu,h2,h3,h4⟩
 | 1=>exact⟨h0,h1,hu,h3,h4⟩
 | 2=>exact⟨h0,h1,h2,hu,h4⟩
 | _+3=>exact⟨h0,h1,h2,h3,hu⟩
theorem zof {l:List Nd}{t:Nd}(ht:1≤t.lv∧t.lv≤1329)(hl:l.length≤990000):∀k,k≤4→(wdK l t k).2.wf
 | 0,_=>⟨⟨by show _≤t.lv+1;omega,by show t.lv+1≤_;omega⟩,zbQ,zbQ,zbQ,zbQ⟩
 | k+1,hk=>by
  have ih:=zof ht hl k (by omega);by_cases h:t.kid k=0
  ·rw[zek h];exact ih
  ·rw[zel h];have:=zim l t k;exact zoe ih k ⟨by omega,by omega⟩
theorem zau.chK {w:World}{g:Nat}{x:Nd}(h:zau w g x){k:Nat}(hk:k<4){o:Nat}(ho:o=1+k)(u:Int):zau (w.setCell ⟨g,o,none⟩ (.int .i64 u)) g (chK x k u):=by
 subst ho;refine(heap_setCell_same w g (1+k) _ _ _ h).trans ?_
 match k,hk with
 | 0,_=>rfl
 | 1,_=>rfl
 | 2,_=>rfl
 | 3,_=>rfl
theorem zau.cells {w:World}{g:Nat}{x:Nd}(h:zau w g x):w.cell? ⟨g,0,none⟩=some (.int .i64 x.lv)∧w.cell? ⟨g,1,none⟩=some (.int .i64 x.a)∧w.cell? ⟨g,2,none⟩=some (.int .i64 x.b)∧w.cell? ⟨g,3,none⟩=some (.int .i64 x.c)∧w.cell? ⟨g,4,none⟩=some (.int .i64 x.d):=h.at_
theorem zau.grow2 {w w6:World}{g:Nat}{x:Nd}{o1 o2:Obj}{r:Option Nat}(h:zau w g x)(hg:((w.alloc o1).alloc o2).grownBy w6 r)(hr:some g≠r):zau w6 g x:=by
 have h1:=h.stay (Below.heap_alloc w o1 _ h.lt);have h2:=h1.stay (Below.heap_alloc _ o2 _ h1.lt);exact h2.stay (hg.block _ h2.lt hr)
theorem zem {w:World}{v v':Value}{o1 o2:Obj}(h:v'.ownBlock=v.ownBlock∨v'.ownBlock=some ((w.alloc o1).alloc o2).heap.size):v'.ownBlock=v.ownBlock∨v'.ownBlock=some (w.heap.size+2):=by
 rcases h with h|h
 ·exact .inl h
 ·exact .inr (by rw[h];simp)
theorem zbj {v v':Value}{s a b:Nat}(h:∀k,v.ownBlock=some k→k≠a∧k≠b)(hk:v'.ownBlock=v.ownBlock∨v'.ownBlock=some (s+2))(hs:a<s∧b<s):∀k,v'.ownBlock=some k→k≠a∧k≠b:=by
 intro k e;rcases hk with h1|h1
 ·exact h k (h1.symm.trans e)
 ·rw[h1] at e;cases e;omega
theorem zlF (n base:Nat)(val:Value)(l:List Nd)(w:World)(h:OwnN w base val l)(hn:l.length=n)(hn9:n≤900000)(h0:0<n)(hl:zaa l=true)(hu:(at_ l (n-1)).lv≤1328)(hb:base≤w.heap.size) :
  Calls Tryz.prog 175 #[val] w fun e w'=>∃v,e=.returned v∧OwnN w' base v (zcZ l)∧Below base w w':=by
 obtain⟨A,c,rfl,hns,-,-⟩:=h.shape;have hcap:=hns.cap;rw[hn] at hcap ⊢;obtain⟨p,rfl⟩:∃p,n=p+1:=⟨n-1,by omega⟩;rw[show p+1-1=p by omega] at hu;obtain⟨b,off,rfl,hbl,hc⟩:=hns.at_ (by omega)
 obtain⟨c1,c2,c3,c4,c5⟩:=hc p (by omega);have hf:=zae hl (i:=p) (by omega);have hwF:zcZ l=(wdK l (at_ l p) 4).1++[(wdK l (at_ l p) 4).2]:=by unfold zcZ;rw[hn];rfl
 obtain⟨t,ht⟩:∃t,t=at_ l p:=⟨_,rfl⟩
 rw[←ht] at c1 c2 c3 c4 c5 hf hu hwF;have hv:=zao hf;have htw:=znW hf (by rw[hn];omega);rw[hn] at h;have i1:(p:Int)<(p:Int)+1:=by omega
 obtain⟨W,hW⟩:∃W:World,W=(w.alloc (.cells #[.int .i64 t.lv,.int .i64 t.a,.int .i64 t.b,.int .i64 t.c,.int .i64 t.d] 70)).alloc (.cells #[.int .i64 (t.lv+1),.int .i64 0,.int .i64 0,.int .i64 0,.int .i64 0] 70):=⟨_,rfl⟩;obtain⟨gt,hgt⟩:∃gt,gt=w.heap.size:=⟨_,rfl⟩;obtain⟨gw,hgw⟩:∃gw,gw=w.heap.size+1:=⟨_,rfl⟩;have HBT:=Hh (show zau W gt t by rw[hW,hgt];exact(zau.new w t).stay (Below.heap_alloc _ _ w.heap.size (by simp)));have HBX:=Hh (show zau W gw (wdK l t 0).2 by
  rw[hW,hgw];have h1:=zau.new (w.alloc (.cells #[.int .i64 t.lv,.int .i64 t.a,.int .i64 t.b,.int .i64 t.c,.int .i64 t.d] 70)) ⟨t.lv+1,0,0,0,0⟩
  rwa [show(w.alloc (.cells #[.int .i64 t.lv,.int .i64 t.a,.int .i64 t.b,.int .i64 t.c,.int .i64 t.d] 70)).heap.size=w.heap.size+1 by simp] at h1)
 have HOW:=Hh (show OwnN W base (.slice (some ⟨b,off,none⟩) (p+1) c) (wdK l t 0).1 by rw[hW];exact(h.alloc _).alloc _);have HBB:=Hh (show Below base w W by rw[hW];exact((Below.refl base w).alloc hb _).alloc (by simp;omega) _);have HAP:=Hh (show ∀k,(Value.slice (some ⟨b,off,none⟩) (p+1) c).ownBlock=some k→k≠gt∧k≠gw from fun k hk=>by have:=(h.lt k hk).2;omega);have HGG:=Hh (show base≤gt∧gw=gt+1 by omega);have HWF:=Hh hwF;have HL:=Hh hn;have HV:=Hh hv;have HTW:=Hh htw;have HW:=Hh hW;have hv1:=hv.1;clear h hn hns hc h0 hbl hl hf hwF ht htw hW hv;go_enter Tryz.func175,Tryz.ntmps175;go_wp2_with fail;rw[←HW.out,←hgw,←hgt];clear c1 c2 c3 c4 c5 hgt hgw hb;go_loopw [20,0,5,6,7] (fun z1 z2 z3 z4 z5 wr=>∃(q:Nat) (v u3 u4 u5:Value),q≤4∧z1=.int .i64 q∧v=z2∧z3=u3∧z4=u4∧z5=u5∧OwnN wr base v (wdK l t q).1∧zau wr gw (wdK l t q).2∧zau wr gt t∧Below base w wr∧(∀k,v.ownBlock=some k→k≠gt∧k≠gw)) (fun z1 _ _ _ _ _=>4-(intOf z1).toNat)
 case atStart=>exact⟨0,_,_,_,_,by omega,rfl,rfl,rfl,rfl,rfl,HOW.out,HBX.out,HBT.out,HBB.out,HAP.out⟩
 case round =>
  obtain⟨q,v,u3,u4,u5,hq,rfl,rfl,rfl,rfl,rfl,how,hbx,hbt,hbw,hap⟩:=hrel;have hm9:=zim l t q;have hxw:=zof (l:=l) HV.out (by rw[HL.out];omega) q hq;obtain⟨G,hG⟩:∃G,G=(wdK l t q).1:=⟨_,rfl⟩;obtain⟨x,hx⟩:∃x,x=(wdK l t q).2:=⟨_,rfl⟩;obtain⟨m,hm⟩:∃m,m=G.length:=⟨_,rfl⟩;rw[←hG] at how hm9;rw[←hx] at hbx hxw;rw[←hm,HL.out] at hm9;have HO:=Hh how;have HX:=Hh hbx;have HT:=Hh hbt;have HB:=Hh hbw;have HP:=Hh hap;obtain⟨A2,c2,hv2,hn2,-,-⟩:=HO.out.shape;have hc2:=hn2.cap;rw[←hm] at hv2 hc2;subst hv2;have HM:=Hh hm;have HG:=Hh hG;have HXX:=Hh hx;have HXW:=Hh hxw;clear how hbx hbt hbw hap hn2 hm hG hx hxw;by_cases hq4:q<4
  ·have hi:=zeD t q hq4;have i2:(q:Int)<4:=by omega
   obtain⟨y,hy⟩:∃y,y=t.kid q:=⟨_,rfl⟩;rw[←hy] at hi;have HY:=Hh hy;have hyw:in64 y:=by rw[hy];exact HTW.out.kid q
   have HYW:=Hh hyw;clear hyw;by_cases hy0:y=0
   ·subst hy0;have HS:=Hh (zek (l:=l) hy.symm);clear hy;go_wp2_with fail;go_roundw
    case rel=>exact⟨q+1,_,_,_,_,by omega,by go_num,rfl,rfl,rfl,rfl,by rw[HS.out,←HG.out];exact HO.out,by rw[HS.out,←HXX.out];exact HX.out,HT.out,HB.out,HP.out⟩
    case measure=>simp[intOf];omega
   ·have t2:(y==0)=false:=beq_eq_false_iff_ne.2 hy0;have HS:=Hh (zel (l:=l) (show t.kid q≠0 by rw[←hy];exact hy0));obtain⟨d1,d2,d3,d4,d5⟩:=HT.out.cells;have hso:base≤wr.heap.size:=Nat.le_of_lt (Nat.lt_of_le_of_lt HGG.out.1 HT.out.lt);have HBS:=Hh hso;have hgw:=HX.out.lt;have fz:=HX.out.free (1+q);have HCW:=Hh (show ∀k,(chK ⟨t.lv,0,0,0,0⟩ k y).wf from fun k=>zoe (x:=⟨t.lv,0,0,0,0⟩) ⟨HTW.out.1,zbQ,zbQ,zbQ,zbQ⟩ k HYW.out);have hq4':q=0∨q=1∨q=2∨q=3:=by omega
    have HNE:=Hh hy0;clear hy hso hy0;rcases hq4' with rfl|rfl|rfl|rfl
    ·rw[show((0:Nat):Int)=0 from rfl] at hi i2 ⊢;have HS':=Hh (show wdK l t 1=(G++[(chK ⟨t.lv,0,0,0,0⟩ 3 y)],chK x 0 ((m:Int)+1)) by
      have h:=HS.out;rw[←HG.out,←HXX.out,←HM.out,←HY.out,show((m+1:Nat):Int)=(m:Int)+1 by omega] at h;exact h)
     go_wp2_with (at_builtin;go_loud (refine zac _ rfl _ _ rfl base _ G [(chK ⟨t.lv,0,0,0,0⟩ 3 y)] _ 1 1 rfl rfl ((HO.out.alloc _).alloc _) (zcj _ _ (chK ⟨t.lv,0,0,0,0⟩ 3 y) (HCW.out 3) (by simp)) rfl (fun e=>by cases e) (by rw[←HM.out];omega) (by have:=HBS.out;simp;omega) ?_;intro v6 w6 ho6 hg6 hk6;obtain⟨A6,c6,hv6,-,-,-⟩:=ho6.shape;rw[List.length_append,←HM.out,List.length_singleton] at hv6;subst hv6;have hx6:=HX.out.grow2 hg6 (fun e=>(HP.out gw e.symm).2 rfl);have ht6:=HT.out.grow2 hg6 (fun e=>(HP.out gt e.symm).1 rfl);have HX6:=Hh hx6;have HT6:=Hh ht6;have HO6:=Hh ho6;have HB6:=Hh ((((HB.out.alloc HBS.out _).alloc (by have:=HBS.out;simp;omega) _)).grown hg6 (by have:=HBS.out;simp;omega) (fun k hk=>(HO.out.lt k hk).1));have HK6:=Hh (zem hk6);obtain⟨x0,x1,x2,x3,x4⟩:=hx6.cells;have z1:=hx6.free 1;clear ho6 hg6 hk6 hx6 ht6));go_roundw
     case rel =>
      refine⟨1,_,_,_,_,by omega,by go_num,rfl,rfl,rfl,rfl,?_,?_,?_,?_,?_⟩
      ·rw[HS'.out];exact HO6.out.gbr (zay _ _ _) (zdP fun k hk e=>by have h1:=Option.some.inj e;exact(zbj HP.out HK6.out (by have:=HX.out.lt;have:=HGG.out.2;omega) k hk).2 h1.symm)
      ·rw[HS'.out];exact HX6.out.chK (k:=0) (by omega) rfl _
      ·exact HT6.out.stay (Below.heap_setCell _ _ _ _ (by have:=HGG.out.2;show gt≠gw;omega))
      ·exact HB6.out.setCell (by have:=HGG.out;show base≤gw;omega) _
      ·exact zbj HP.out HK6.out (by have:=HX.out.lt;have:=HGG.out.2;omega)
     case measure=>simp[intOf];try omega
    ·rw[show((1:Nat):Int)=1 from rfl] at hi i2 ⊢;have HS':=Hh (show wdK l t 2=(G++[(chK ⟨t.lv,0,0,0,0⟩ 2 y)],chK x 1 ((m:Int)+1)) by
      have h:=HS.out;rw[←HG.out,←HXX.out,←HM.out,←HY.out,show((m+1:Nat):Int)=(m:Int)+1 by omega] at h;exact h)
     go_wp2_with (at_builtin;go_loud (refine zac _ rfl _ _ rfl base _ G [(chK ⟨t.lv,0,0,0,0⟩ 2 y)] _ 1 1 rfl rfl ((HO.out.alloc _).alloc _) (zcj _ _ (chK ⟨t.lv,0,0,0,0⟩ 2 y) (HCW.out 2) (by simp)) rfl (fun e=>by cases e) (by rw[←HM.out];omega) (by have:=HBS.out;simp;omega) ?_;intro v6 w6 ho6 hg6 hk6;obtain⟨A6,c6,hv6,-,-,-⟩:=ho6.shape;rw[List.length_append,←HM.out,List.length_singleton] at hv6;subst hv6;have hx6:=HX.out.grow2 hg6 (fun e=>(HP.out gw e.symm).2 rfl);have ht6:=HT.out.grow2 hg6 (fun e=>(HP.out gt e.symm).1 rfl);have HX6:=Hh hx6;have HT6:=Hh ht6;have HO6:=Hh ho6;have HB6:=Hh ((((HB.out.alloc HBS.out _).alloc (by have:=HBS.out;simp;omega) _)).grown hg6 (by have:=HBS.out;simp;omega) (fun k hk=>(HO.out.lt k hk).1));have HK6:=Hh (zem hk6);obtain⟨x0,x1,x2,x3,x4⟩:=hx6.cells;have z1:=hx6.free 2;clear ho6 hg6 hk6 hx6 ht6));go_roundw
     case rel =>
      refine⟨2,_,_,_,_,by omega,by go_num,rfl,rfl,rfl,rfl,?_,?_,?_,?_,?_⟩
      ·rw[HS'.out];exact HO6.out.gbr (zay _ _ _) (zdP fun k hk e=>by have h1:=Option.some.inj e;exact(zbj HP.out HK6.out (by have:=HX.out.lt;have:=HGG.out.2;omega) k hk).2 h1.symm)
      ·rw[HS'.out];exact HX6.out.chK (k:=1) (by omega) rfl _
      ·exact HT6.out.stay (Below.heap_setCell _ _ _ _ (by have:=HGG.out.2;show gt≠gw;omega))
      ·exact HB6.out.setCell (by have:=HGG.out;show base≤gw;omega) _
      ·exact zbj HP.out HK6.out (by have:=HX.out.lt;have:=HGG.out.2;omega)
     case measure=>simp[intOf];try omega
    ·rw[show((2:Nat):Int)=2 from rfl] at hi i2 ⊢;have HS':=Hh (show wdK l t 3=(G++[(chK ⟨t.lv,0,0,0,0⟩ 1 y)],chK x 2 ((m:Int)+1)) by
      have h:=HS.out;rw[←HG.out,←HXX.out,←HM.out,←HY.out,show((m+1:Nat):Int)=(m:Int)+1 by omega] at h;exact h)
     go_wp2_with (at_builtin;go_loud (refine zac _ rfl _ _ rfl base _ G [(chK ⟨t.lv,0,0,0,0⟩ 1 y)] _ 1 1 rfl rfl ((HO.out.alloc _).alloc _) (zcj _ _ (chK ⟨t.lv,0,0,0,0⟩ 1 y) (HCW.out 1) (by simp)) rfl (fun e=>by cases e) (by rw[←HM.out];omega) (by have:=HBS.out;simp;omega) ?_;intro v6 w6 ho6 hg6 hk6;obtain⟨A6,c6,hv6,-,-,-⟩:=ho6.shape;rw[List.length_append,←HM.out,List.length_singleton] at hv6;subst hv6;have hx6:=HX.out.grow2 hg6 (fun e=>(HP.out gw e.symm).2 rfl);have ht6:=HT.out.grow2 hg6 (fun e=>(HP.out gt e.symm).1 rfl);have HX6:=Hh hx6;have HT6:=Hh ht6;have HO6:=Hh ho6;have HB6:=Hh ((((HB.out.alloc HBS.out _).alloc (by have:=HBS.out;simp;omega) _)).grown hg6 (by have:=HBS.out;simp;omega) (fun k hk=>(HO.out.lt k hk).1));have HK6:=Hh (zem hk6);obtain⟨x0,x1,x2,x3,x4⟩:=hx6.cells;have z1:=hx6.free 3;clear ho6 hg6 hk6 hx6 ht6));go_roundw
     case rel =>
      refine⟨3,_,_,_,_,by omega,by go_num,rfl,rfl,rfl,rfl,?_,?_,?_,?_,?_⟩
      ·rw[HS'.out];exact HO6.out.gbr (zay _ _ _) (zdP fun k hk e=>by have h1:=Option.some.inj e;exact(zbj HP.out HK6.out (by have:=HX.out.lt;have:=HGG.out.2;omega) k hk).2 h1.symm)
      ·rw[HS'.out];exact HX6.out.chK (k:=2) (by omega) rfl _
      ·exact HT6.out.stay (Below.heap_setCell _ _ _ _ (by have:=HGG.out.2;show gt≠gw;omega))
      ·exact HB6.out.setCell (by have:=HGG.out;show base≤gw;omega) _
      ·exact zbj HP.out HK6.out (by have:=HX.out.lt;have:=HGG.out.2;omega)
     case measure=>simp[intOf];try omega
    ·rw[show((3:Nat):Int)=3 from rfl] at hi i2 ⊢;have HS':=Hh (show wdK l t 4=(G++[(chK ⟨t.lv,0,0,0,0⟩ 0 y)],chK x 3 ((m:Int)+1)) by
      have h:=HS.out;rw[←HG.out,←HXX.out,←HM.out,←HY.out,show((m+1:Nat):Int)=(m:Int)+1 by omega] at h;exact h)
     go_wp2_with (at_builtin;go_loud (refine zac _ rfl _ _ rfl base _ G [(chK ⟨t.lv,0,0,0,0⟩ 0 y)] _ 1 1 rfl rfl ((HO.out.alloc _).alloc _) (zcj _ _ (chK ⟨t.lv,0,0,0,0⟩ 0 y) (HCW.out 0) (by simp)) rfl (fun e=>by cases e) (by rw[←HM.out];omega) (by have:=HBS.out;simp;omega) ?_;intro v6 w6 ho6 hg6 hk6;obtain⟨A6,c6,hv6,-,-,-⟩:=ho6.shape;rw[List.length_append,←HM.out,List.length_singleton] at hv6;subst hv6;have hx6:=HX.out.grow2 hg6 (fun e=>(HP.out gw e.symm).2 rfl);have ht6:=HT.out.grow2 hg6 (fun e=>(HP.out gt e.symm).1 rfl);have HX6:=Hh hx6;have HT6:=Hh ht6;have HO6:=Hh ho6;have HB6:=Hh ((((HB.out.alloc HBS.out _).alloc (by have:=HBS.out;simp;omega) _)).grown hg6 (by have:=HBS.out;simp;omega) (fun k hk=>(HO.out.lt k hk).1));have HK6:=Hh (zem hk6);obtain⟨x0,x1,x2,x3,x4⟩:=hx6.cells;have z1:=hx6.free 4;clear ho6 hg6 hk6 hx6 ht6));go_roundw
     case rel =>
      refine⟨4,_,_,_,_,by omega,by go_num,rfl,rfl,rfl,rfl,?_,?_,?_,?_,?_⟩
      ·rw[HS'.out];exact HO6.out.gbr (zay _ _ _) (zdP fun k hk e=>by have h1:=Option.some.inj e;exact(zbj HP.out HK6.out (by have:=HX.out.lt;have:=HGG.out.2;omega) k hk).2 h1.symm)
      ·rw[HS'.out];exact HX6.out.chK (k:=3) (by omega) rfl _
      ·exact HT6.out.stay (Below.heap_setCell _ _ _ _ (by have:=HGG.out.2;show gt≠gw;omega))
      ·exact HB6.out.setCell (by have:=HGG.out;show base≤gw;omega) _
      ·exact zbj HP.out HK6.out (by have:=HX.out.lt;have:=HGG.out.2;omega)
     case measure=>simp[intOf];try omega
  ·have hq5:q=4:=by omega
   subst hq5;obtain⟨x0,x1,x2,x3,x4⟩:=HX.out.cells;have hso:base≤wr.heap.size:=Nat.le_of_lt (Nat.lt_of_le_of_lt HGG.out.1 HT.out.lt);have HBS:=Hh hso;clear hso;go_wp2_with (at_builtin;go_loud (refine zac _ rfl _ _ rfl base _ G [x] _ 1 1 rfl rfl (HO.out.alloc _) (zcj _ _ x HXW.out rfl) rfl (fun e=>by cases e) (by rw[←HM.out];omega) (by have:=HBS.out;simp;omega) ?_;intro v6 w6 ho6 hg6 hk6;have HO6:=Hh ho6;have HB6:=Hh ((HB.out.alloc HBS.out _).grown hg6 (by have:=HBS.out;simp;omega) (fun k hk=>(HO.out.lt k hk).1));clear ho6 hg6 hk6));go_ret;refine⟨v6,rfl,?_,HB6.out⟩;rw[HWF.out,←HG.out,←HXX.out];exact HO6.out
def zaP (lv:Nat)(q:List Nd):List Nd:=if q.length=0 then [] else zfk (lv-(at_ q (q.length-1)).lv.toNat) q
theorem zjw (l:List Nd)(t:Nd):∀k,l.length≤(wdK l t k).1.length
 | 0=>Nat.le_refl _
 | k+1=>by
  have:=zjw l t k;by_cases h:t.kid k=0
  ·rw[zek h];omega
  ·rw[zel h];simp;omega
theorem zlG (l:List Nd):l.length+1≤(zcZ l).length:=by
 unfold zcZ;have:=zjw l (at_ l (l.length-1)) 4;rw[List.length_append,List.length_singleton];omega
theorem zoR {w:World}{base n:Nat}{v:Value}{l:List Nd}(h:OwnN w base v l)(hn:l.length=n+1) :
  ∃A c g off,v=.slice (some ⟨g,off,none⟩) (n+1) c∧w.cell? ⟨g,off+n*5,none⟩=some (.int .i64 (at_ l n).lv)∧(n+1≤c∧A=some (⟨g,off,none⟩:Addr)):=by
 obtain⟨A,c,hv,hns,-,-⟩:=h.shape;have hcap:=hns.cap;obtain⟨g,off,rfl,-,hc⟩:=hns.at_ (by omega)
 exact⟨_,c,g,off,by rw[hv,hn],(hc n (by omega)).1,by omega,rfl⟩
structure GrS (lv:Nat)(q:List Nd)(d m:Nat)(g:List Nd):Prop where
 loose:zaa g=true
 size:g.length=m+1
 low:(lv:Int)≤(at_ g m).lv+d
 up:0<d→(at_ g m).lv+d=lv
 len:m+5*d≤q.length+6645
 same:zfk d g=zaP lv q
theorem GrS.start {lv:Nat}{q:List Nd}(hl:zaa q=true)(h9:lv≤1329){p:Nat}(hp:q.length=p+1):GrS lv q (lv-(at_ q p).lv.toNat) p q:=by
 have hv:=zao (zae hl (i:=p) (by omega));refine⟨hl,hp,by omega,fun h=>by omega,by omega,?_⟩;unfold zaP;rw[if_neg (by omega),hp,Nat.add_sub_cancel]
theorem GrS.next {lv:Nat}{q g:List Nd}(h9:lv≤1329){d m:Nat}(h:GrS lv q (d+1) m g):∃m2,GrS lv q d m2 (zcZ g)∧m<m2∧m2≤m+5:=by
 have hu:=h.up (by omega);have hf:=zao (zae h.loose (i:=m) (by rw[h.size];omega));obtain⟨k,hk⟩:∃k:Nat,(at_ g m).lv=(k:Int)+1:=⟨((at_ g m).lv-1).toNat,by omega⟩;have hs:=h.size;obtain⟨w1,w2⟩:=zhw h.loose (m:=k) (by omega) (by rw[hs,Nat.add_sub_cancel];exact hk) (by omega);have hm:=zlG g;have hlv:=w1.lv;obtain⟨m2,hm2⟩:∃m2,(zcZ g).length=m2+1:=⟨(zcZ g).length-1,by omega⟩;rw[hm2,Nat.add_sub_cancel] at hlv;have hlen:=h.len;exact⟨m2,⟨w1.loose,hm2,by rw[hlv];omega,fun h2=>by rw[hlv];omega,by omega,h.same⟩,by omega,by omega⟩
theorem zoS (A:Option Addr)(c n lv:Nat)(q:List Nd)(w:World)(h:Ns w A c q)(hn:q.length=n)(hn9:n≤800000)(hl:zaa q=true)(hlv:lv≤1329)(hA:A=none→c=0) :
  Calls Tryz.prog 132 #[.agg #[.slice A n c],.int .i64 (lv:Int)] w fun e w'=>∃v,e=.returned (.tuple #[v,.int .i64 ((zaP lv q).length:Nat)])∧OwnN w' w.heap.size v (zaP lv q)∧Below w.heap.size w w':=by
 have hcap:=h.cap;rw[hn] at hcap;have hb:=(Below.refl w.heap.size w).alloc (Nat.le_refl _) (.cells #[.slice A n c] 28);have HB:=Hh hb;have HN:=Hh (h.below hb);have HA:=Hh hA;have HL:=Hh hn;have HLL:=Hh hl;obtain⟨R,hR⟩:∃R,R=zaP lv q:=⟨_,rfl⟩;rw[←hR];have HR:=Hh hR;have t9:decide ((lv:Int)>1329)=false:=decide_eq_false (by omega);have t8:decide ((1329:Int)<(lv:Int))=false:=t9;rcases Nat.eq_zero_or_pos n with h0|h0
 ·subst h0;have HZ:=Hh (show R=[] by rw[hR];unfold zaP;rw[if_pos hn]);have HQ:=Hh (List.eq_nil_of_length_eq_zero hn);clear h hb hA hn hl hR;go_enter Tryz.func132,Tryz.ntmps132;go_wp2_with (go_at_call 174;go_loud (refine(zhq _ _ 0 q _ HN.out HL.out (by omega) HA.out).mono ?_;rintro e w1 ⟨v,rfl,o1,b1⟩;obtain⟨A1,c1,hv,-,-,-⟩:=o1.shape;rw[HL.out] at hv;subst hv;have HO:=Hh (o1.mono HB.out.size);have HB1:=Hh (HB.out.trans (b1.mono HB.out.size));clear o1 b1));go_ret2;refine⟨_,by rw[HZ.out];rfl,?_,HB1.out⟩;rw[HZ.out,←HQ.out];exact HO.out
 ·obtain⟨p,rfl⟩:∃p,n=p+1:=⟨n-1,by omega⟩;have HS:=Hh (GrS.start hl hlv hn);have t7:((p:Int)+1==0)=false:=beq_eq_false_iff_ne.2 (by omega);clear h hb hA hn hl hR;go_enter Tryz.func132,Tryz.ntmps132;go_wp2_with (go_at_call 174;go_loud (refine(zhq _ _ (p+1) q _ HN.out HL.out (by omega) HA.out).mono ?_;rintro e w1 ⟨v,rfl,o1,b1⟩;obtain⟨A1,c1,hv,-,-,-⟩:=o1.shape;rw[HL.out] at hv;subst hv;have HO:=Hh (o1.mono HB.out.size);have HB1:=Hh (HB.out.trans (b1.mono HB.out.size));clear o1 b1));go_loopw [6] (fun z6 wr=>∃(d m:Nat) (g:List Nd) (v:Value),v=z6∧OwnN wr w.heap.size v g∧Below w.heap.size w wr∧GrS lv q d m g) (fun z6 _=>p+10000-lenOf z6)
  case atStart=>exact⟨_,_,_,_,rfl,HO.out,HB1.out,HS.out⟩
  case round =>
   obtain⟨d,m,g,v,rfl,how,hbw,hgs⟩:=hrel;obtain⟨A2,c2,g2,off,hv2,hcl,hcp,-⟩:=zoR how hgs.size;subst hv2;have hm9:m≤890000:=by have:=hgs.len;have:=HL.out;omega
   obtain⟨u,hu⟩:∃u,u=(at_ g m).lv:=⟨_,rfl⟩;rw[←hu] at hcl;have HOW:=Hh how;have HBW:=Hh hbw;have HGS:=Hh hgs;have HU:=Hh hu;have i1:(m:Int)<(m:Int)+1:=by omega
   cases d with
   | zero =>
    have t1:decide (u<(lv:Int))=false:=decide_eq_false (by have:=hgs.low;rw[hu];omega);have HG:=Hh (show g=R by rw[HR.out];exact hgs.same);clear how hbw hgs hu;go_wp2_with fail;go_ret2;refine⟨_,?_,by rw[←HG.out];exact HOW.out,HBW.out⟩;rw[←HG.out,HGS.out.size];rfl
   | succ d =>
    have hup:=hgs.up (by omega);have t1:decide (u<(lv:Int))=true:=decide_eq_true (by rw[hu];omega);have HUP:=Hh hup;obtain⟨m2,hn2,hm2,hm25⟩:=hgs.next hlv;have HN2:=Hh hn2;clear how hbw hgs hu hup hn2;go_wp2_with (go_at_call 175;go_loud (refine(zlF (m+1) w.heap.size _ g _ HOW.out HGS.out.size (by omega) (by omega) HGS.out.loose (by rw[Nat.add_sub_cancel];have:=HUP.out;omega) HBW.out.size).mono ?_;rintro e w2 ⟨v2,rfl,o2,b2⟩;have HO2:=Hh o2;have HB2:=Hh (HBW.out.trans b2);clear o2 b2));go_roundw
    case rel=>exact⟨d,m2,zcZ g,v2,rfl,HO2.out,HB2.out,HN2.out⟩
    case measure =>
     have h1:=HO2.out.len;rw[HN2.out.size] at h1;have h2:lenOf (Value.slice (some ⟨g2,off,none⟩) (m+1) c2)=m+1:=rfl;have h3:=HN2.out.len;have h4:=HL.out;rw[h1,h2];omega
end Go.Proofs.YtfjajpnfjjdnpaaGreatDoor
