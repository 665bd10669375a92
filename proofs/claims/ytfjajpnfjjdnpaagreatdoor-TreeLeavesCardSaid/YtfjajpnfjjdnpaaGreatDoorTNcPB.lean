import Derived.Test.YtfjajpnfjjdnpaaGreatDoorTClQ

set_option linter.unusedVariables false
set_option linter.unusedSimpArgs false
set_option maxRecDepth 100000
set_option maxHeartbeats 6400000
namespace Go.Proofs.YtfjajpnfjjdnpaaGreatDoor
open Nds
theorem zjp {l:List Nd}(hl:zaa l=true):∀{m:Nat} {k:Int},kidB l ((m:Int)+1) k=true→wfT (m:Int) (kidT (dens l) ((m:Int)+1) k)
 | 0,k,hk=>by
  have h:kidB l 1 k=true:=hk;rw[zcI,decide_eq_true_iff] at h;exact zpD h
 | m+1,k,hk=>by
  have hne:(((m+1:Nat)):Int)+1≠1:=by omega
  rcases zaw hne hk with rfl|⟨p,rfl,hp,hlv⟩
  ·rw[zaQ];trivial
  ·rw[zax hne,show((p:Int)+1).toNat=p+1 by omega];have h:=zdu hl p hp
   rwa [hlv,show(((m+1:Nat)):Int)+1-1=((m+1:Nat):Int) by omega] at h
theorem zaW {t:Tr}{n:Nat}{x y:Int}(hw:wfT (n:Int) t)(h:¬ (0≤x∧x<p2 n∧0≤y∧y<p2 n)):zae t x y=0 :=
 Classical.byContradiction fun h2=>h (zas t n x y hw h2)
def qtI (h x y:Int):Nat:=(if x<h then 0 else 1)+(if y<h then 0 else 2)
def subI (h x:Int):Int:=if x<h then x else x-h
theorem zpM (h x y:Int):qtI h x y<4:=by
 unfold qtI;split <;> split <;> omega
def chK (x:Nd)(i:Nat)(u:Int):Nd:=match i with|0=>{ x with a:=u }|1=>{ x with b:=u }|2=>{ x with c:=u }|_=>{ x with d:=u }
theorem zjq (x:Nd)(i:Nat)(u:Int):(chK x i u).lv=x.lv:=by
 unfold chK;split <;> rfl
theorem zgG (x:Nd){i:Nat}(hi:i<4)(u:Int){j:Nat}(hj:j<4):(chK x i u).kid j=if j=i then u else x.kid j:=by
 match i,hi,j,hj with
 | 0,_,0,_=>rfl
 | 0,_,1,_=>rfl
 | 0,_,2,_=>rfl
 | 0,_,3,_=>rfl
 | 1,_,0,_=>rfl
 | 1,_,1,_=>rfl
 | 1,_,2,_=>rfl
 | 1,_,3,_=>rfl
 | 2,_,0,_=>rfl
 | 2,_,1,_=>rfl
 | 2,_,2,_=>rfl
 | 2,_,3,_=>rfl
 | 3,_,0,_=>rfl
 | 3,_,1,_=>rfl
 | 3,_,2,_=>rfl
 | 3,_,3,_=>rfl
def zdE (m:Nat)(l:List Nd)(n:Int):Nd:=if n=0 then ⟨(m:Int)+1,0,0,0,0⟩ else at_ l (n-1).toNat
theorem zjr {l:List Nd}(hl:zaa l=true){m:Nat}(hm:m≤1328){n:Int}(hn:kidB l (((m+1:Nat))+1:Int) n=true):fitB l (zdE m l n)=true∧(zdE m l n).lv=(m:Int)+1∧kidT (dens l) (((m+1:Nat))+1:Int) n=norm (dens l) (zdE m l n):=by
 have hne:(((m+1:Nat)):Int)+1≠1:=by omega
 unfold zdE;rcases zaw hne hn with rfl|⟨p,rfl,hp,hlv⟩
 ·rw[if_pos rfl,zaQ];have hk:∀v:Int,1≤v→kidB l v 0=true:=fun v hv=>by
   by_cases h1:v=1
   ·rw[h1,zcI];rfl
   ·exact zbk _ _ h1
  refine⟨?_,rfl,?_⟩
  ·unfold fitB Nd.each;rw[decide_eq_true (show 1≤(m:Int)+1∧(m:Int)+1≤1329 by omega)];show(true&&(kidB l ((m:Int)+1) 0&&kidB l ((m:Int)+1) 0&&kidB l ((m:Int)+1) 0&&kidB l ((m:Int)+1) 0))=true;rw[hk _ (by omega)];rfl
  ·show _=mk _ (kidT (dens l) ((m:Int)+1) 0) (kidT (dens l) ((m:Int)+1) 0) (kidT (dens l) ((m:Int)+1) 0) (kidT (dens l) ((m:Int)+1) 0);rw[zaQ];rfl
 ·rw[if_neg (by omega),show((p:Int)+1-1).toNat=p by omega];refine⟨zad hl hp,by omega,?_⟩;rw[zax hne,show((p:Int)+1).toNat=p+1 by omega,zap hl hp]
theorem zeA {l:List Nd}{x:Nd}{m:Nat}(h:x.lv=(m:Int)+1):norm (dens l) x=mk ((m:Int)+1) (kidT (dens l) ((m:Int)+1) (x.kid 0)) (kidT (dens l) ((m:Int)+1) (x.kid 1)) (kidT (dens l) ((m:Int)+1) (x.kid 2)) (kidT (dens l) ((m:Int)+1) (x.kid 3)):=by
 unfold norm;rw[h];rfl
def getF:Nat→List Nd→Int→Int→Int→Int
 | 0,_,n,_,_=>n
 | m+1,l,n,x,y=>if n=0 then 0 else getF m l ((zdE m l n).kid (qtI (p2 m) x y)) (subI (p2 m) x) (subI (p2 m) y)
theorem zdF {l:List Nd}(hl:zaa l=true):∀{m:Nat} {n x y:Int},m≤1329→kidB l ((m:Int)+1) n=true→0≤x→x<p2 m→0≤y→y<p2 m→getF m l n x y=zae (kidT (dens l) ((m:Int)+1) n) x y
 | 0,n,x,y,_,hn,hx0,hx,hy0,hy=>by
  rw[zeU] at hx hy;obtain rfl:x=0:=by omega
  obtain rfl:y=0:=by omega
  show n=zae (st n) 0 0;unfold st;split
  ·rename_i h;rw[h];rfl
  ·rfl
 | m+1,n,x,y,hm,hn,hx0,hx,hy0,hy=>by
  obtain⟨h1,h2,h3⟩:=zjr hl (by omega) hn;have hw:∀i,i<4→wfT (m:Int) (kidT (dens l) ((m:Int)+1) ((zdE m l n).kid i)):=fun i hi=>zjp hl (by have:=zag h1 hi;rwa [h2] at this);have hk:∀i,i<4→kidB l ((m:Int)+1) ((zdE m l n).kid i)=true:=fun i hi=>by have:=zag h1 hi;rwa [h2] at this
  have hp:=zaF m;have hp1:=zaR m;unfold getF;rw[h3,zeA h2,zcq (hw 0 (by omega)) (hw 1 (by omega)) (hw 2 (by omega)) (hw 3 (by omega))];by_cases hn0:n=0
  ·rw[if_pos hn0];have e:zdE m l n=⟨(m:Int)+1,0,0,0,0⟩:=by unfold zdE;rw[if_pos hn0]
   rw[e];show(0:Int)=zae (kidT (dens l) _ 0) _ _+zae (kidT (dens l) _ 0) _ _+zae (kidT (dens l) _ 0) _ _+zae (kidT (dens l) _ 0) _ _;rw[zaQ];rfl
  ·rw[if_neg hn0];unfold qtI subI;by_cases hx1:x<p2 m
   ·by_cases hy1:y<p2 m
    ·simp only[hx1,hy1,if_true];rw[zdF hl (by omega) (hk _ (by omega)) hx0 hx1 hy0 hy1,zaW (hw 1 (by omega)) (by omega),zaW (hw 2 (by omega)) (by omega),zaW (hw 3 (by omega)) (by omega)];simp
    ·simp only[hx1,hy1,if_true,if_false];rw[zdF hl (by omega) (hk _ (by omega)) hx0 hx1 (by omega) (by omega),zaW (hw 0 (by omega)) (by omega),zaW (hw 1 (by omega)) (by omega),zaW (hw 3 (by omega)) (by omega)];simp
   ·by_cases hy1:y<p2 m
    ·simp only[hx1,hy1,if_true,if_false];rw[zdF hl (by omega) (hk _ (by omega)) (by omega) (by omega) hy0 hy1,zaW (hw 0 (by omega)) (by omega),zaW (hw 2 (by omega)) (by omega),zaW (hw 3 (by omega)) (by omega)];simp
    ·simp only[hx1,hy1,if_false];rw[zdF hl (by omega) (hk _ (by omega)) (by omega) (by omega) (by omega) (by omega),zaW (hw 0 (by omega)) (by omega),zaW (hw 1 (by omega)) (by omega),zaW (hw 2 (by omega)) (by omega)];simp
theorem zjs {m:Nat}{t:Tr}(h:wfT ((m+1:Nat):Int) t)(x y:Int):zbr t x y=zae t (x+p2 m) (y+p2 m):=by
 cases t with
 | e=>rfl
 | s k =>
  have:=h.1;omega
 | n v a b c d =>
  have e:(((m+1:Nat)):Int)=v:=h.1;subst e;show zae _ _ _=_;rw[show(Tr.n ((m+1:Nat):Int) a b c d).lv.toNat-1=m from by show(((m+1:Nat)):Int).toNat-1=m;omega]
def wdK (l:List Nd)(t:Nd):Nat→List Nd × Nd
 | 0=>(l,⟨t.lv+1,0,0,0,0⟩)
 | k+1=>if t.kid k=0 then wdK l t k else ((wdK l t k).1++[chK ⟨t.lv,0,0,0,0⟩ (3-k) (t.kid k)],chK (wdK l t k).2 k (((wdK l t k).1.length+1:Nat):Int))
def zcw (l:List Nd):List Nd:=(wdK l (at_ l (l.length-1)) 4).1++[(wdK l (at_ l (l.length-1)) 4).2]
def corT (m j:Nat)(K:Tr):Tr:=mk ((m:Int)+1) (if j=3 then K else .e) (if j=2 then K else .e) (if j=1 then K else .e) (if j=0 then K else .e)
theorem zqx (m j:Nat):corT m j .e=.e:=by
 unfold corT;simp only[ite_self];rfl
theorem zdG {m j:Nat}{K:Tr}(hK:wfT (m:Int) K)(hj:j<4)(u v:Int):zae (corT m j K) u v=zae K (u-offX m (3-j)) (v-offY m (3-j)):=by
 have we:wfT (m:Int) .e:=trivial;unfold corT
 match j,hj with
 | 0,_ =>
  rw[zcq (by simpa using we) (by simpa using we) (by simpa using we) (by simpa using hK)];simp[zaI,offX,offY]
 | 1,_ =>
  rw[zcq (by simpa using we) (by simpa using we) (by simpa using hK) (by simpa using we)];simp[zaI,offX,offY]
 | 2,_ =>
  rw[zcq (by simpa using we) (by simpa using hK) (by simpa using we) (by simpa using we)];simp[zaI,offX,offY]
 | 3,_ =>
  rw[zcq (by simpa using hK) (by simpa using we) (by simpa using we) (by simpa using we)];simp[zaI,offX,offY]
structure Wds (l:List Nd)(t:Nd)(m k:Nat)(o:List Nd)(x:Nd):Prop where
 loose:zaa o=true
 pre:l <+: o
 len:o.length≤l.length+k
 lv:x.lv=(m:Int)+1+1
 zero:∀j,j<4→k≤j→x.kid j=0
 kid:∀j,j<k→kidB o ((m:Int)+1+1) (x.kid j)=true∧kidT (dens o) ((m:Int)+1+1) (x.kid j)=corT m j (kidT (dens l) ((m:Int)+1) (t.kid j))
theorem kid0 (l:List Nd){v:Int}(hv:1≤v):kidB l v 0=true:=by
 by_cases h1:v=1
 ·rw[h1,zcI];rfl
 ·exact zbk _ _ h1
theorem zlz {l:List Nd}{t:Nd}{m:Nat}(hl:zaa l=true)(ht:fitB l t=true)(hlv:t.lv=(m:Int)+1)(hm:m≤1327):∀k,k≤4→Wds l t m k (wdK l t k).1 (wdK l t k).2
 | 0,_=>⟨hl,List.prefix_refl _,Nat.le_refl _,by show t.lv+1=_;rw[hlv],fun j hj _=>by
   match j,hj with
   | 0,_=>rfl
   | 1,_=>rfl
   | 2,_=>rfl
   | 3,_=>rfl,fun j hj=>by omega⟩
 | k+1,hk=>by
  have ih:=zlz hl ht hlv hm k (by omega);have hne:(m:Int)+1+1≠1:=by omega
  have hkt:kidB l ((m:Int)+1) (t.kid k)=true:=by have:=zag ht (i:=k) (by omega);rwa [hlv] at this
  unfold wdK;obtain⟨o,ho⟩:∃o,o=(wdK l t k).1:=⟨_,rfl⟩;obtain⟨x,hx⟩:∃x,x=(wdK l t k).2:=⟨_,rfl⟩;rw[←ho,←hx] at ih;by_cases h0:t.kid k=0
  ·rw[if_pos h0,←ho,←hx];refine⟨ih.loose,ih.pre,Nat.le_succ_of_le ih.len,ih.lv,fun j hj hkj=>ih.zero j hj (by omega),fun j hj=>?_⟩;rcases Nat.lt_or_ge j k with h1|h1
   ·exact ih.kid j h1
   ·obtain rfl:j=k:=by omega
    rw[ih.zero j (by omega) (Nat.le_refl _),h0,zaQ,zaQ,zqx];exact⟨zbk _ _ hne,rfl⟩
  ·rw[if_neg h0,←ho,←hx];obtain⟨c,hc⟩:∃c,c=chK ⟨t.lv,0,0,0,0⟩ (3-k) (t.kid k):=⟨_,rfl⟩;rw[←hc];have hclv:c.lv=(m:Int)+1:=by rw[hc,zjq];exact hlv
   have hck:∀j,j<4→c.kid j=if j=3-k then t.kid k else 0:=fun j hj=>by
    rw[hc,zgG _ (by omega) _ hj];split
    ·rfl
    ·match j,hj with
     | 0,_=>rfl
     | 1,_=>rfl
     | 2,_=>rfl
     | 3,_=>rfl
   have hcf:fitB o c=true:=by
    have h1:∀j,j<4→kidB o ((m:Int)+1) (c.kid j)=true:=fun j hj=>by
     rw[hck j hj];split
     ·exact zdy ih.pre hkt
     ·exact kid0 _ (by omega)
    unfold fitB Nd.each;rw[hclv,decide_eq_true (show 1≤(m:Int)+1∧(m:Int)+1≤1329 by omega)];show(true&&(kidB o ((m:Int)+1) (c.kid 0)&&kidB o ((m:Int)+1) (c.kid 1)&&kidB o ((m:Int)+1) (c.kid 2)&&kidB o ((m:Int)+1) (c.kid 3)))=true;rw[h1 0 (by omega),h1 1 (by omega),h1 2 (by omega),h1 3 (by omega)];rfl
   have hcn:norm (dens o) c=corT m k (kidT (dens l) ((m:Int)+1) (t.kid k)):=by
    have h1:∀j,j<4→kidT (dens o) ((m:Int)+1) (c.kid j)=if j=3-k then kidT (dens l) ((m:Int)+1) (t.kid k) else .e:=fun j hj=>by
     rw[hck j hj];split
     ·exact zcM ih.pre hkt
     ·exact zaQ _ _
    rw[zeA hclv,h1 0 (by omega),h1 1 (by omega),h1 2 (by omega),h1 3 (by omega)];unfold corT;have hk4:k=0∨k=1∨k=2∨k=3:=by omega
    rcases hk4 with rfl|rfl|rfl|rfl <;> rfl
   refine⟨zcd ih.loose hcf,ih.pre.trans (List.prefix_append _ _),?_,by rw[zjq,ih.lv],fun j hj hkj=>?_,fun j hj=>?_⟩
   ·rw[List.length_append,List.length_singleton];have:=ih.len;omega
   ·rw[zgG _ (by omega) _ hj,if_neg (by omega)];exact ih.zero j hj (by omega)
   ·rw[zgG _ (by omega) _ (by omega)];by_cases hjk:j=k
    ·subst hjk;rw[if_pos rfl,show(((o.length+1:Nat)):Int)=(o.length:Int)+1 by omega];refine⟨?_,?_⟩
     ·rw[zbW _ _ _ hne (by simp),zbY];exact decide_eq_true (by rw[hclv];omega)
     ·rw[zax hne,show((o.length:Int)+1).toNat=o.length+1 by omega,zbO,hcn]
    ·rw[if_neg hjk];obtain⟨h1,h2⟩:=ih.kid j (by omega);exact⟨zdy (List.prefix_append _ _) h1,by rw[zcM (List.prefix_append _ _) h1,h2]⟩
structure Wis (l:List Nd)(m:Nat)(g:List Nd):Prop where
 loose:zaa g=true
 pre:l <+: g
 pos:0<g.length
 lv:(at_ g (g.length-1)).lv=(m:Int)+1
 cells:∀x y,zbr (den g g.length) x y=zbr (den l l.length) x y
theorem zhs {l:List Nd}{m:Nat}(hl:zaa l=true)(h0:0<l.length)(hlv:(at_ l (l.length-1)).lv=(m:Int)+1)(hm:m≤1327):Wis l (m+1) (zcw l)∧(zcw l).length≤l.length+5:=by
 obtain⟨p,hp⟩:∃p,l.length=p+1:=⟨l.length-1,by omega⟩;have ht:=zad hl (i:=l.length-1) (by omega);have hw:=zlz hl ht hlv hm 4 (Nat.le_refl _);unfold zcw;obtain⟨t,hte⟩:∃t,t=at_ l (l.length-1):=⟨_,rfl⟩
 rw[←hte] at ht hlv hw ⊢;obtain⟨o,ho⟩:∃o,o=(wdK l t 4).1:=⟨_,rfl⟩;obtain⟨x,hx⟩:∃x,x=(wdK l t 4).2:=⟨_,rfl⟩;rw[←ho,←hx] at hw ⊢;have hkt:∀j,j<4→wfT (m:Int) (kidT (dens l) ((m:Int)+1) (t.kid j)):=fun j hj=>zjp hl (by have:=zag ht hj;rwa [hlv] at this);have hxl:x.lv=((m+1:Nat):Int)+1:=by rw[hw.lv];omega
 have hxk:∀j,j<4→kidB o (((m+1:Nat):Int)+1) (x.kid j)=true∧kidT (dens o) (((m+1:Nat):Int)+1) (x.kid j)=corT m j (kidT (dens l) ((m:Int)+1) (t.kid j)):=fun j hj=>by
  have h:=hw.kid j hj
  rwa [show(m:Int)+1+1=((m+1:Nat):Int)+1 by omega] at h
 have hfit:fitB o x=true:=by
  unfold fitB Nd.each;rw[hxl,decide_eq_true (show 1≤((m+1:Nat):Int)+1∧((m+1:Nat):Int)+1≤1329 by omega)];show(true&&(kidB o (((m+1:Nat):Int)+1) (x.kid 0)&&kidB o (((m+1:Nat):Int)+1) (x.kid 1)&&kidB o (((m+1:Nat):Int)+1) (x.kid 2)&&kidB o (((m+1:Nat):Int)+1) (x.kid 3)))=true;rw[(hxk 0 (by omega)).1,(hxk 1 (by omega)).1,(hxk 2 (by omega)).1,(hxk 3 (by omega)).1];rfl
 have hlo:=zcd hw.loose hfit;have hlen:(o++[x]).length=o.length+1:=by simp
 refine⟨⟨hlo,hw.pre.trans (List.prefix_append _ _),by rw[hlen];omega,by rw[hlen,Nat.add_sub_cancel,zbY,hxl],fun a b=>?_⟩,by have:=hw.len;rw[hlen];omega⟩;have hwt:=zdu hlo o.length (by rw[hlen];omega);rw[zbY,hxl,show((m+1:Nat):Int)+1=((m+1+1:Nat):Int) by omega] at hwt;have hwl:=zdu hl p (by omega);have e1:(at_ l p).lv=((m+1:Nat):Int):=by
  rw[show p=l.length-1 by omega,←hte,hlv];omega
 rw[e1] at hwl;have ec:∀j,j<4→wfT ((m+1:Nat):Int) (kidT (dens o) (((m+1:Nat):Int)+1) (x.kid j)):=fun j hj=>zjp hw.loose (hxk j hj).1;rw[hlen,zjs hwt,hp,zjs hwl,zbO,zeA hxl,zcq (ec 0 (by omega)) (ec 1 (by omega)) (ec 2 (by omega)) (ec 3 (by omega)),(hxk 0 (by omega)).2,(hxk 1 (by omega)).2,(hxk 2 (by omega)).2,(hxk 3 (by omega)).2,
  zdG (hkt 0 (by omega)) (by omega),zdG (hkt 1 (by omega)) (by omega),zdG (hkt 2 (by omega)) (by omega),zdG (hkt 3 (by omega)) (by omega),zap hl (by omega),show at_ l p=t by rw[hte,hp];rfl,zeA hlv,zcq (hkt 0 (by omega)) (hkt 1 (by omega)) (hkt 2 (by omega)) (hkt 3 (by omega))]
 have ep:=zaF m;show zae _ (_-p2 m) (_-p2 m)+zae _ (_-0) (_-p2 m)+zae _ (_-p2 m) (_-0)+zae _ (_-0) (_-0)=_;rw[show a+p2 (m+1)-p2 m=a+p2 m by omega,show b+p2 (m+1)-p2 m=b+p2 m by omega,show a+p2 (m+1)-p2 (m+1)-0=a+p2 m-p2 m by omega,show b+p2 (m+1)-p2 (m+1)-0=b+p2 m-p2 m by omega]
def zgH:Nat→List Nd→List Nd
 | 0,l=>l
 | d+1,l=>zgH d (zcw l)
theorem zfb:∀(d:Nat) {l:List Nd} {m:Nat},zaa l=true→0<l.length→(at_ l (l.length-1)).lv=(m:Int)+1→m+d≤1328→Wis l (m+d) (zgH d l)∧(zgH d l).length≤l.length+5*d
 | 0,l,m,hl,h0,hlv,_=>⟨⟨hl,List.prefix_refl _,h0,hlv,fun _ _=>rfl⟩,Nat.le_refl _⟩
 | d+1,l,m,hl,h0,hlv,hm=>by
  obtain⟨w1,w2⟩:=zhs hl h0 hlv (by omega);obtain⟨g1,g2⟩:=zfb d w1.loose w1.pos w1.lv (by omega);unfold zgH;rw[show m+(d+1)=m+1+d by omega];exact⟨⟨g1.loose,w1.pre.trans g1.pre,g1.pos,g1.lv,fun x y=>by rw[g1.cells,w1.cells]⟩,by omega⟩
end Go.Proofs.YtfjajpnfjjdnpaaGreatDoor

namespace Go.Proofs.YtfjajpnfjjdnpaaGreatDoor
open Go.RowKit Nds
theorem zoQ (w:World):(binOp .eql 26 (.slice none 0 0) (.slice none 0 0)).run Tryz.prog w=.ok (.bool true) w:=by kernel_rfl
theorem zpN (a:Addr)(n c:Nat)(w:World):(binOp .eql 26 (.slice (some a) n c) (.slice none 0 0)).run Tryz.prog w=.ok (.bool false) w:=by kernel_rfl
theorem zht (A:Option Addr)(c n:Nat)(l:List Nd)(w:World)(h:Ns w A c l)(hn:l.length=n)(hn9:n≤990000)(hA:A=none→c=0) :
  Calls Tryz.prog 174 #[.slice A n c] w fun e w'=>∃v,e=.returned v∧OwnN w' w.heap.size v l∧Below w.heap.size w w':=by
 have hcap:=h.cap;rw[hn] at hcap;have HN:=Hh h;have HL:=Hh hn;have HA:=Hh hA;clear h hn hA;cases A with
 | none =>
  have hc0:=HA.out rfl;have hn0:n=0:=by omega
  subst hc0;subst hn0;have hl:l=[]:=List.eq_nil_of_length_eq_zero HL.out;have HE:=Hh hl;have hq:=zoQ;clear hl;go_enter Tryz.func174,Tryz.ntmps174;go_wp2_with fail;go_ret;exact⟨_,rfl,by rw[HE.out];exact zdA _ _,Below.refl _ _⟩
 | some a =>
  have hq:=zpN a n c;go_enter Tryz.func174,Tryz.ntmps174;go_wp2_with (at_builtin;go_loud (refine zac _ rfl _ _ rfl w.heap.size _ [] l (some a) n c rfl rfl (OwnN.start _) (HN.out.below ((Below.refl _ w).alloc (Nat.le_refl _) _)) HL.out HA.out (by simp;omega) (by simp) ?_;intro v2 w2 ho2 hg2 hk2;rw[List.nil_append] at ho2;have HO:=Hh ho2;have HB:=Hh (((Below.refl _ w).alloc (Nat.le_refl _) _).grown hg2 (by simp) (fun k hk=>by cases hk;exact Nat.le_refl _));clear ho2 hg2 hk2));go_ret;exact⟨_,rfl,HO.out,HB.out⟩
end Go.Proofs.YtfjajpnfjjdnpaaGreatDoor
