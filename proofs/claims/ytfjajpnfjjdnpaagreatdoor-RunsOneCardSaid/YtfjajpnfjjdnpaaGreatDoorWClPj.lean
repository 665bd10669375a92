import Derived.Test.YtfjajpnfjjdnpaaGreatDoorWNcPB

set_option linter.unusedVariables false
set_option linter.unusedSimpArgs false
set_option maxRecDepth 100000
set_option maxHeartbeats 6400000
namespace Go.Proofs.YtfjajpnfjjdnpaaGreatDoor
open Go.RowKit Nds Num
def PXY (A:Option Addr)(xs:List Nat)(B:Option Addr)(ys:List Nat):Nat→Prop:=fun q=>(0<xs.length∧∃a,A=some a∧a.block=q)∨(0<ys.length∧∃a,B=some a∧a.block=q)
structure RlB (P:Nat→Prop)(B:Nat)(wr:World)(ga gb:Nat)(sa:Bool)(Aa:Option Addr)(ca:Nat)(us:List Nat)(zx:Int)(sb:Bool)(Ab:Option Addr)(cb:Nat)(vs:List Nat)(zy:Int)(wx:World):Prop where
 b:Below wr.heap.size wr wx
 a:HX wx ga sa Aa ca us zx
 d:HX wx gb sb Ab cb vs zy
 gea:wr.heap.size≤ga
 geb:wr.heap.size≤gb
 ne:ga≠gb
 la:0<us.length→∀a,Aa=some a→wr.heap.size≤a.block∨(P a.block∧a.block<B)
 lb:0<vs.length→∀a,Ab=some a→wr.heap.size≤a.block∨(P a.block∧a.block<B)
section
variable {P:Nat→Prop} {B:Nat} {wr:World} {ga gb:Nat} {sa:Bool} {Aa:Option Addr} {ca:Nat} {us:List Nat} {zx:Int} {sb:Bool} {Ab:Option Addr} {cb:Nat} {vs:List Nat} {zy:Int} {wx W1:World}
theorem RlB.next (h:RlB P B wr ga gb sa Aa ca us zx sb Ab cb vs zy wx)(q:Below wx.heap.size wx W1):RlB P B wr ga gb sa Aa ca us zx sb Ab cb vs zy W1 :=
 ⟨h.b.trans (q.mono h.b.size),h.a.next q,h.d.next q,h.gea,h.geb,h.ne,h.la,h.lb⟩
theorem ztq {g g2:Nat}{s:Bool}{A:Option Addr}{c:Nat}{xs:List Nat}{n:Int}{s0:Bool}{A0:Option Addr}{n0 c0:Nat}(h:HX wx g s A c xs n)(hne:g≠g2)(h2:wx.heap[g2]?=some (.cells #[.bool s0,.slice A0 n0 c0] 48))(x y:Value):HX ((wx.setCell ⟨g2,0,none⟩ x).setCell ⟨g2,1,none⟩ y) g s A c xs n:=by
 have hg:=ztm (zfT wx g2 0 x) (zfT _ g2 1 y);exact⟨(hg.block g h.lt (fun e=>hne (Option.some.inj e))).trans h.box,zcF h.us (fun q h1 h3=>hg.block q h1 (fun e=>h3 (by cases e;rfl))) hg.size (zdS h.us (zgF h2)),h.cn,h.v,h.off⟩
theorem RlB.setA (h:RlB P B wr ga gb sa Aa ca us zx sb Ab cb vs zy wx){s2:Bool}{A2:Option Addr}{c2:Nat}{xs2:List Nat}{z2:Int}(hu:Us wx A2 c2 xs2)(hc:zaE s2 xs2)(hv:ival s2 xs2=z2)(hf:FrU wr.heap.size A2) :
  RlB P B wr ga gb s2 A2 c2 xs2 z2 sb Ab cb vs zy ((wx.setCell ⟨ga,0,none⟩ (.bool s2)).setCell ⟨ga,1,none⟩ (.slice A2 xs2.length c2)) :=
 ⟨(h.b.setCell (p:=⟨ga,0,none⟩) h.gea _).setCell (p:=⟨ga,1,none⟩) h.gea _,h.a.set hu hc hv,ztq h.d h.ne.symm h.a.box _ _,h.gea,h.geb,h.ne,fun _ a ea=>.inl (hf a ea),h.lb⟩
theorem RlB.setB (h:RlB P B wr ga gb sa Aa ca us zx sb Ab cb vs zy wx){s2:Bool}{A2:Option Addr}{c2:Nat}{xs2:List Nat}{z2:Int}(hu:Us wx A2 c2 xs2)(hc:zaE s2 xs2)(hv:ival s2 xs2=z2)(hf:FrU wr.heap.size A2) :
  RlB P B wr ga gb sa Aa ca us zx s2 A2 c2 xs2 z2 ((wx.setCell ⟨gb,0,none⟩ (.bool s2)).setCell ⟨gb,1,none⟩ (.slice A2 xs2.length c2)) :=
 ⟨(h.b.setCell (p:=⟨gb,0,none⟩) h.geb _).setCell (p:=⟨gb,1,none⟩) h.geb _,ztq h.a h.ne h.d.box _ _,h.d.set hu hc hv,h.gea,h.geb,h.ne,h.la,fun _ a ea=>.inl (hf a ea)⟩
end
theorem zny (wr:World){sx:Bool}{Ax:Option Addr}{cx:Nat}{xs:List Nat}{X:Int}{sy:Bool}{Ay:Option Addr}{cy:Nat}{ys:List Nat}{Y:Int}{P:Nat→Prop}{B gx gy:Nat}(hX:HX wr gx sx Ax cx xs X)(hY:HX wr gy sy Ay cy ys Y)
  (lx:0<xs.length→∀a,Ax=some a→P a.block∧a.block<B) (ly:0<ys.length→∀a,Ay=some a→P a.block∧a.block<B) :
  RlB P B wr wr.heap.size (wr.heap.size+1) sx Ax cx xs X sy Ay cy ys Y (((wr.alloc (.cells #[.bool sx,.slice Ax xs.length cx] 48)).alloc (.cells #[.bool sy,.slice Ay ys.length cy] 48)).drew) ∧
  RlB P B wr (wr.heap.size+1) wr.heap.size sx Ax cx xs X sy Ay cy ys Y (((wr.alloc (.cells #[.bool sy,.slice Ay ys.length cy] 48)).alloc (.cells #[.bool sx,.slice Ax xs.length cx] 48)).drew):=by
 have key:∀(s:Bool) (A:Option Addr) (c:Nat) (zs:List Nat) (t:Bool) (D:Option Addr) (d:Nat) (us:List Nat) (z u:Int),Us wr A c zs→zaE s zs→ival s zs=z→Us wr D d us→zaE t us→ival t us=u →
   Below wr.heap.size wr (((wr.alloc (.cells #[.bool s,.slice A zs.length c] 48)).alloc (.cells #[.bool t,.slice D us.length d] 48)).drew) ∧
   HX (((wr.alloc (.cells #[.bool s,.slice A zs.length c] 48)).alloc (.cells #[.bool t,.slice D us.length d] 48)).drew) wr.heap.size s A c zs z ∧
   HX (((wr.alloc (.cells #[.bool s,.slice A zs.length c] 48)).alloc (.cells #[.bool t,.slice D us.length d] 48)).drew) (wr.heap.size+1) t D d us u:=by
  intro s A c zs t D d us z u h1 h2 h3 k1 k2 k3;have hb:Below wr.heap.size wr (((wr.alloc (.cells #[.bool s,.slice A zs.length c] 48)).alloc (.cells #[.bool t,.slice D us.length d] 48)).drew):=zaa (((Below.refl _ wr).alloc (Nat.le_refl _) _).alloc (by simp) _) 1;refine⟨hb,⟨?_,h1.below hb,h2,h3,fun h0 a ea=>by have:=zbQ h1 h0 a ea;omega⟩,⟨?_,k1.below hb,k2,k3,fun h0 a ea=>by have:=zbQ k1 h0 a ea;omega⟩⟩
  ·exact(Below.heap_alloc _ _ _ (by simp)).trans (heap_alloc_new wr _)
  ·have h:=heap_alloc_new (wr.alloc (.cells #[.bool s,.slice A zs.length c] 48)) (.cells #[.bool t,.slice D us.length d] 48);rw[show(wr.alloc (.cells #[.bool s,.slice A zs.length c] 48)).heap.size=wr.heap.size+1 by simp] at h;exact h
 obtain⟨b1,x1,y1⟩:=key sx Ax cx xs sy Ay cy ys X Y hX.us hX.cn hX.v hY.us hY.cn hY.v;obtain⟨b2,y2,x2⟩:=key sy Ay cy ys sx Ax cx xs Y X hY.us hY.cn hY.v hX.us hX.cn hX.v;exact⟨⟨b1,x1,y1,Nat.le_refl _,Nat.le_succ _,by omega,fun h0 a ea=>.inr (lx h0 a ea),fun h0 a ea=>.inr (ly h0 a ea)⟩,⟨b2,x2,y2,Nat.le_succ _,Nat.le_refl _,by omega,fun h0 a ea=>.inr (lx h0 a ea),fun h0 a ea=>.inr (ly h0 a ea)⟩⟩
theorem zpt (h:Int){k:Nat}(hk:k<4):(offI h k=0∨offI h k=h)∧(offJ h k=0∨offJ h k=h):=by
 obtain rfl|rfl|rfl|rfl:k=0∨k=1∨k=2∨k=3:=by omega
 ·exact⟨.inl rfl,.inl rfl⟩
 ·exact⟨.inr rfl,.inl rfl⟩
 ·exact⟨.inl rfl,.inr rfl⟩
 ·exact⟨.inr rfl,.inr rfl⟩
theorem zff {X Y:Int}{m k:Nat}(h : -p2 1329≤X∧X+p2 (m+1)≤p2 1329∧-p2 1329≤Y∧Y+p2 (m+1)≤p2 1329)(hk:k<4) : -p2 1329≤X+offI (p2 m) k∧X+offI (p2 m) k+p2 m≤p2 1329∧-p2 1329≤Y+offJ (p2 m) k∧Y+offJ (p2 m) k+p2 m≤p2 1329:=by
 obtain⟨h1,h2⟩:=zpt (p2 m) hk;have h3:=zau m;have h4:=zar m;omega
theorem zuk {X Y:Int}{m k:Nat}(h : -p2 1329≤X∧X+p2 (m+1)≤p2 1329∧-p2 1329≤Y∧Y+p2 (m+1)≤p2 1329)(hk:k<4) : -p2 1330≤X+offI (p2 m) k∧X+offI (p2 m) k≤p2 1330∧-p2 1330≤Y+offJ (p2 m) k∧Y+offJ (p2 m) k≤p2 1330:=by
 have h1:=zff h hk;have h2:=zar m;have h3:p2 1330=p2 1329+p2 1329:=zau 1329;have h4:=zar 1329;omega
theorem zsf {k:Nat}{h:Int}(e:false=((k:Int)%2==1))(hk:k<4):offI h k=0:=by
 obtain rfl|rfl|rfl|rfl:k=0∨k=1∨k=2∨k=3:=by omega
 ·rfl
 ·cases e
 ·rfl
 ·cases e
theorem zsg {k:Nat}{h:Int}(e:true=((k:Int)%2==1))(hk:k<4):offI h k=h:=by
 obtain rfl|rfl|rfl|rfl:k=0∨k=1∨k=2∨k=3:=by omega
 ·cases e
 ·rfl
 ·cases e
 ·rfl
theorem zpu {k:Nat}{h:Int}(e:false=decide ((k:Int)>1))(hk:k<4):offJ h k=0:=by
 obtain rfl|rfl|rfl|rfl:k=0∨k=1∨k=2∨k=3:=by omega
 ·rfl
 ·rfl
 ·cases e
 ·cases e
theorem zpv {k:Nat}{h:Int}(e:true=decide ((k:Int)>1))(hk:k<4):offJ h k=h:=by
 obtain rfl|rfl|rfl|rfl:k=0∨k=1∨k=2∨k=3:=by omega
 ·cases e
 ·cases e
 ·rfl
 ·rfl
end Go.Proofs.YtfjajpnfjjdnpaaGreatDoor

namespace Go.Proofs.YtfjajpnfjjdnpaaGreatDoor
open Nds
theorem zmn:∀(l:List Cl) (c:Cl),(insC l c).length≤l.length+1
 | [],c=>Nat.le_refl _
 | a :: l,c=>by
  have h:=zmn l c;unfold insC;split
  ·rw[List.length_cons,List.length_cons];omega
  ·split
   ·rw[List.length_cons,List.length_cons];omega
   ·rw[List.length_cons,List.length_cons];omega
theorem zmo:∀(l m:List Cl),(l.foldl insC m).length≤m.length+l.length
 | [],m=>Nat.le_refl _
 | c :: l,m=>by
  have h:=zmo l (insC m c);have h2:=zmn m c;rw[List.foldl_cons,List.length_cons];omega
theorem zmp (l:List Cl):(zaP l).length≤l.length:=by
 unfold zaP zdc;have h:=zmo l [];have h2:=List.length_filter_le (fun c:Cl=>c.s != 0) (l.foldl insC []);simp only[List.length_nil,Nat.zero_add] at h;exact Nat.le_trans h2 h
theorem zdo:∀(t:Tr) (n:Nat),wfT (n:Int) t→t≠.e→1≤zaG t
 | .e,_,_,h=>absurd rfl h
 | .s k,_,_,_=>Nat.le_refl 1
 | .n v a b c d,n,h,_=>by
  have hv:=h.1;obtain⟨m,rfl,hv2,ha,hb,hc,hd,_⟩:=wf_n h;obtain⟨i,hi,hne⟩:=zlV h;show 1≤zaG a+zaG b+zaG c+zaG d
  match i,hi with
  | 0,_=>have:=zdo a m ha hne;omega
  | 1,_=>have:=zdo b m hb hne;omega
  | 2,_=>have:=zdo c m hc hne;omega
  | 3,_=>have:=zdo d m hd hne;omega
theorem zvx (out:List Nd)(x:Nd):(add out x).1.length≤out.length+1:=by
 unfold add;split
 ·simp
 ·exact Nat.le_succ _
theorem zgL:∀(t:Tr) (n:Nat) (out:List Nd),wfT (n:Int) t→(enc t out).1.length≤out.length+n*zaG t
 | .e,n,out,_=>Nat.le_add_right _ _
 | .s k,n,out,_=>Nat.le_add_right _ _
 | .n v a b c d,n,out,h=>by
  have hp:1≤zaG a+zaG b+zaG c+zaG d:=zdo (.n v a b c d) n h (by simp);obtain⟨m,rfl,hv2,ha,hb,hc,hd,_⟩:=wf_n h;have h0:=zgL a m out ha;have h1:=zgL b m (outK (Tr.n v a b c d).q out 1) hb;have h2:=zgL c m (outK (Tr.n v a b c d).q out 2) hc;have h3:=zgL d m (outK (Tr.n v a b c d).q out 3) hd;have h4:=zvx (outK (Tr.n v a b c d).q out 4) (topN (Tr.n v a b c d).q out v);have e1:(outK (Tr.n v a b c d).q out 1).length=(enc a out).1.length:=rfl;have e2:(outK (Tr.n v a b c d).q out 2).length=(enc b (outK (Tr.n v a b c d).q out 1)).1.length:=rfl;have e3:(outK (Tr.n v a b c d).q out 3).length=(enc c (outK (Tr.n v a b c d).q out 2)).1.length:=rfl;have e4:(outK (Tr.n v a b c d).q out 4).length=(enc d (outK (Tr.n v a b c d).q out 3)).1.length:=rfl;rw[zns];show(add (outK (Tr.n v a b c d).q out 4) (topN (Tr.n v a b c d).q out v)).1.length≤out.length+(m+1)*(zaG a+zaG b+zaG c+zaG d);rw[Nat.add_mul,Nat.one_mul,Nat.mul_add,Nat.mul_add,Nat.mul_add];omega
theorem zaX.lenF {X:List Cl}{out:List Nd}(h:zaX (zaP X) out):zaG (Nds.den out out.length)=(zaP X).length∧out.length≤1329*(zaP X).length:=by
 have h1:=zpm h.good.1;rw[h.cells (zdm X) fun c hc=>((zbC X).2.2 c hc).1] at h1;refine⟨h1.symm,?_⟩;obtain⟨t,n,w1,w2,w3,rfl,w5⟩:=h;by_cases he:t=.e
 ·subst he;exact Nat.zero_le _
 ·obtain⟨_,_,hd⟩:=ziD w1 he w2;rw[hd] at h1;have h2:=zgL t n [] w1;rw[h1];have hn:n≤1329:=by
   cases t with
   | e=>exact absurd rfl he
   | s k=>exact absurd rfl (w2 k)
   | n v a b c d =>
    have:=w1.1;have:=w1.2.2.1;omega
  have h3:=Nat.mul_le_mul_right (zaG t) hn;rw[List.length_nil,Nat.zero_add] at h2;exact Nat.le_trans h2 h3
def outP (m:Nat)(out:List Nd)(X Y:Int)(L:List Cl):Nat→List Nd
 | 0=>out
 | k+1=>(zay m (outP m out X Y L k) (X+offI (p2 m) k) (Y+offJ (p2 m) k) (L.filter (sqB (X+offI (p2 m) k) (Y+offJ (p2 m) k) (p2 m)))).1
def kidP (m:Nat)(out:List Nd)(X Y:Int)(L:List Cl)(k:Nat):Int :=
 (zay m (outP m out X Y L k) (X+offI (p2 m) k) (Y+offJ (p2 m) k) (L.filter (sqB (X+offI (p2 m) k) (Y+offJ (p2 m) k) (p2 m)))).2
def topP (m:Nat)(out:List Nd)(X Y:Int)(L:List Cl):Nd:=⟨(m:Int)+1,kidP m out X Y L 0,kidP m out X Y L 1,kidP m out X Y L 2,kidP m out X Y L 3⟩
theorem ziQ (m:Nat)(out:List Nd)(X Y:Int)(L:List Cl){k:Nat}(hk:k<4):(topP m out X Y L).kid k=kidP m out X Y L k:=by
 match k,hk with
 | 0,_=>rfl
 | 1,_=>rfl
 | 2,_=>rfl
 | 3,_=>rfl
theorem zfg (m:Nat)(out:List Nd)(X Y:Int):zay m out X Y []=(out,0):=by
 cases m <;> rfl
theorem zea {m:Nat}{out:List Nd}{X Y:Int}{L:List Cl}(hne:L≠[]):zay (m+1) out X Y L=(outP m out X Y L 4++[topP m out X Y L],(((outP m out X Y L 4).length+1:Nat):Int)):=by
 have h0:L.isEmpty=false:=by
  cases L with
  | nil=>exact absurd rfl hne
  | cons c L=>rfl
 conv=>lhs;unfold zay
 rw[h0];rfl
theorem zjN (h X Y:Int)(hh:0<h)(L:List Cl):(L.filter (sqB (X+offI h 0) (Y+offJ h 0) h)).length+(L.filter (sqB (X+offI h 1) (Y+offJ h 1) h)).length+(L.filter (sqB (X+offI h 2) (Y+offJ h 2) h)).length+(L.filter (sqB (X+offI h 3) (Y+offJ h 3) h)).length≤L.length:=by
 induction L with
 | nil=>exact Nat.le_refl 0
 | cons c L ih =>
  have s0:=zbf (X:=X+offI h 0) (Y:=Y+offJ h 0) (h:=h) (c:=c);have s1:=zbf (X:=X+offI h 1) (Y:=Y+offJ h 1) (h:=h) (c:=c);have s2:=zbf (X:=X+offI h 2) (Y:=Y+offJ h 2) (h:=h) (c:=c);have s3:=zbf (X:=X+offI h 3) (Y:=Y+offJ h 3) (h:=h) (c:=c);rw[List.filter_cons,List.filter_cons,List.filter_cons,List.filter_cons,List.length_cons];simp only[offI,offJ,Int.add_zero] at s0 s1 s2 s3 ih ⊢;generalize sqB X Y h c=b0 at s0 ⊢;generalize sqB (X+h) Y h c=b1 at s1 ⊢;generalize sqB X (Y+h) h c=b2 at s2 ⊢;generalize sqB (X+h) (Y+h) h c=b3 at s3 ⊢;cases b0 <;> cases b1 <;> cases b2 <;> cases b3 <;> simp at s0 s1 s2 s3 ⊢ <;> omega
theorem zbl:∀(m:Nat) (out:List Nd) (X Y:Int) (L:List Cl),(zay m out X Y L).1.length≤out.length+m*L.length
 | 0,out,X,Y,L=>Nat.le_add_right _ _
 | m+1,out,X,Y,L=>by
  by_cases hne:L=[]
  ·subst hne;rw[zfg];exact Nat.le_add_right _ _
  ·have hp:0<L.length:=List.length_pos_iff.2 hne;have h0:(outP m out X Y L 1).length≤_:=zbl m out (X+offI (p2 m) 0) (Y+offJ (p2 m) 0) (L.filter (sqB (X+offI (p2 m) 0) (Y+offJ (p2 m) 0) (p2 m)));have h1:(outP m out X Y L 2).length≤_:=zbl m (outP m out X Y L 1) (X+offI (p2 m) 1) (Y+offJ (p2 m) 1) (L.filter (sqB (X+offI (p2 m) 1) (Y+offJ (p2 m) 1) (p2 m)));have h2:(outP m out X Y L 3).length≤_:=zbl m (outP m out X Y L 2) (X+offI (p2 m) 2) (Y+offJ (p2 m) 2) (L.filter (sqB (X+offI (p2 m) 2) (Y+offJ (p2 m) 2) (p2 m)));have h3:(outP m out X Y L 4).length≤_:=zbl m (outP m out X Y L 3) (X+offI (p2 m) 3) (Y+offJ (p2 m) 3) (L.filter (sqB (X+offI (p2 m) 3) (Y+offJ (p2 m) 3) (p2 m)));have hq:=zjN (p2 m) X Y (zar m) L;have hm:=Nat.mul_le_mul_left m hq;rw[Nat.mul_add,Nat.mul_add,Nat.mul_add] at hm;rw[zea hne,Nat.add_mul,Nat.one_mul];show(outP m out X Y L 4++[topP m out X Y L]).length≤_;rw[List.length_append,List.length_singleton];omega
theorem ziR (m:Nat)(out:List Nd)(X Y:Int)(L:List Cl)(k:Nat)(hk:k<4):(outP m out X Y L k).length+m*(L.filter (sqB (X+offI (p2 m) k) (Y+offJ (p2 m) k) (p2 m))).length≤out.length+m*L.length:=by
 have h0:(outP m out X Y L 1).length≤_:=zbl m out (X+offI (p2 m) 0) (Y+offJ (p2 m) 0) (L.filter (sqB (X+offI (p2 m) 0) (Y+offJ (p2 m) 0) (p2 m)));have h1:(outP m out X Y L 2).length≤_:=zbl m (outP m out X Y L 1) (X+offI (p2 m) 1) (Y+offJ (p2 m) 1) (L.filter (sqB (X+offI (p2 m) 1) (Y+offJ (p2 m) 1) (p2 m)));have h2:(outP m out X Y L 3).length≤_:=zbl m (outP m out X Y L 2) (X+offI (p2 m) 2) (Y+offJ (p2 m) 2) (L.filter (sqB (X+offI (p2 m) 2) (Y+offJ (p2 m) 2) (p2 m)));have hq:=zjN (p2 m) X Y (zar m) L;have hm:=Nat.mul_le_mul_left m hq;rw[Nat.mul_add,Nat.mul_add,Nat.mul_add] at hm;have e0:(outP m out X Y L 0).length=out.length:=rfl
 match k,hk with
 | 0,_=>omega
 | 1,_=>omega
 | 2,_=>omega
 | 3,_=>omega
theorem zpw (m:Nat)(out:List Nd)(X Y:Int)(L:List Cl):(outP m out X Y L 4).length≤out.length+m*L.length:=by
 have h:=ziR m out X Y L 3 (by omega);have h3:(outP m out X Y L 4).length≤_:=zbl m (outP m out X Y L 3) (X+offI (p2 m) 3) (Y+offJ (p2 m) 3) (L.filter (sqB (X+offI (p2 m) 3) (Y+offJ (p2 m) 3) (p2 m)));omega
theorem zpx (m:Nat)(out:List Nd)(X Y:Int){L:List Cl}(h:∀c∈L,0≤c.s∧c.s≤255):0≤(zay m out X Y L).2∧(zay m out X Y L).2≤255+((zay m out X Y L).1.length:Int):=by
 cases m with
 | zero =>
  cases L with
  | nil=>exact⟨Int.le_refl 0,by show(0:Int)≤255+((out.length:Nat):Int);omega⟩
  | cons c L =>
   have:=h c (by simp);exact⟨this.1,by show c.s≤255+((out.length:Nat):Int);omega⟩
 | succ m =>
  by_cases hne:L=[]
  ·subst hne;rw[zfg];exact⟨Int.le_refl 0,by show(0:Int)≤255+((out.length:Nat):Int);omega⟩
  ·rw[zea hne];dsimp only;rw[List.length_append,List.length_singleton];omega
theorem zul {m:Nat}{out:List Nd}{X Y:Int}{L:List Cl}(hm:m≤1328)(h:∀c∈L,0≤c.s∧c.s≤255)(hl:out.length+m*L.length≤900000):(topP m out X Y L).wf:=by
 have key:∀k,k<4→in64 (kidP m out X Y L k):=fun k hk=>by
  have h1:=zpx m (outP m out X Y L k) (X+offI (p2 m) k) (Y+offJ (p2 m) k) (L:=L.filter (sqB (X+offI (p2 m) k) (Y+offJ (p2 m) k) (p2 m))) (fun c hc=>h c (List.mem_filter.1 hc).1);have h2:=zbl m (outP m out X Y L k) (X+offI (p2 m) k) (Y+offJ (p2 m) k) (L.filter (sqB (X+offI (p2 m) k) (Y+offJ (p2 m) k) (p2 m)));have h3:=ziR m out X Y L k hk;unfold kidP;exact⟨by omega,by omega⟩
 exact⟨⟨by show _≤(m:Int)+1;omega,by show(m:Int)+1≤_;omega⟩,key 0 (by omega),key 1 (by omega),key 2 (by omega),key 3 (by omega)⟩
end Go.Proofs.YtfjajpnfjjdnpaaGreatDoor

namespace Go.Proofs.YtfjajpnfjjdnpaaGreatDoor
open Go.RowKit Num
theorem zum (s:Bool)(A:Option Addr)(c:Nat)(xs:List Nat)(n:Int)(w:World)(h:Us w A c xs)(hl:xs.length≤60000) :
  Calls Tryz.prog 153 #[.agg #[.bool s,.slice A xs.length c],.int .i64 n] w (zdL (shlI (ival s xs) n) w):=by
 have hcap:=h.cap;obtain⟨hX,hR,hB⟩:=box2 w (.bool s) (.slice A xs.length c) (.bool false) (.slice none 0 0) 48;have HX:=Hh hX.drew;have HR:=Hh hR.drew;have HB:=Hh (Below.drew' hB);have hd:=h.1;have H1:=Hh (h.below HB.out);clear h hX hR hB;go_enter Tryz.func153,Tryz.ntmps153;go_wp2_with fail;go_region_held3 (fun w'=>w'.cell? ⟨w.heap.size,0,none⟩=some (.bool s)∧w'.cell? ⟨w.heap.size,1,none⟩=some (.slice A xs.length c))
  (first|go_keep|fail)
  (first
   | (go_at_call 201;refine(zsZ _ _ xs n _ H1.out (by omega)).mono ?_;rintro e w1 ⟨A1,c1,r1,rfl,q1,k1,v1,b1⟩;obtain⟨x1,x2,_,_,_⟩:=HX.out.below b1)
   | (go_at_call 94;refine(zfU s _ _ r1 _ q1 (by have:=zot hd hl k1 v1;omega)).mono ?_;rintro e w2 ⟨A2,c2,s2,r2,rfl,q2,k2,v2,b2,f2⟩;have HF2:=Hh f2;clear f2;obtain⟨x1,x2,_,_,_⟩:=(HX.out.below b1).below b2;obtain⟨y1,y2,y3,y4,_⟩:=(HR.out.below b1).below b2))
 go_wp2;obtain⟨e1,e2,_,_,_⟩:=(((HR.out.below b1).below b2).set (.bool s2) (.slice A2 r2.length c2));refine bodyPost_ret (v:=.agg #[.bool s2,.slice A2 r2.length c2]) (by simp[results,Tryz.results153,go_sem,e1,e2]) rfl ?_;exact zdL.box (by omega) ((HR.out.below b1).below b2) q2 k2 (v2.trans (zir s v1)) ((HB.out.trans (b1.mono HB.out.size)).trans (b2.mono (HB.out.trans (b1.mono HB.out.size)).size)) (fun a ea=>Nat.le_trans HB.out.size (Nat.le_trans b1.size (HF2.out a ea)))
theorem zun (n:Int)(w:World) :
  Calls Tryz.prog 109 #[.int .i64 n] w (zdL (shlI 1 n) w):=by
 obtain⟨hR,hB⟩:=box1 w (.bool false) (.slice none 0 0) 48;have HR:=Hh hR;have HB:=Hh hB;clear hR hB;go_enter Tryz.func109,Tryz.ntmps109;go_wp2_with (first
  | (go_at_call 48;refine(zba 1 _ (by decide) (by decide)).mono ?_;rintro e w1 ⟨A1,c1,s1,r1,rfl,q1,k1,v1,b1⟩;have l1:r1.length≤1:=zbH k1 v1 1 (by decide);have HV:=Hh v1;clear v1)
  | (go_at_call 153;refine(zum s1 _ _ r1 n _ q1 (by omega)).mono ?_;rintro e w2 ⟨A2,c2,s2,r2,rfl,q2,k2,v2,b2,f2⟩;have HF2:=Hh f2;clear f2;obtain⟨y1,y2,y3,y4,_⟩:=(HR.out.below b1).below b2;have HV2:=Hh v2;clear v2))
 obtain⟨e1,e2,_,_,_⟩:=(((HR.out.below b1).below b2).set (.bool s2) (.slice A2 r2.length c2));refine bodyPost_ret (v:=.agg #[.bool s2,.slice A2 r2.length c2]) (by simp[results,Tryz.results109,go_sem,e1,e2]) rfl ?_;exact zdL.box (by omega) ((HR.out.below b1).below b2) q2 k2 (by rw[HV2.out,HV.out]) ((HB.out.trans (b1.mono HB.out.size)).trans (b2.mono (HB.out.trans (b1.mono HB.out.size)).size)) (fun a ea=>Nat.le_trans HB.out.size (Nat.le_trans b1.size (HF2.out a ea)))
end Go.Proofs.YtfjajpnfjjdnpaaGreatDoor

namespace Go.Proofs.YtfjajpnfjjdnpaaGreatDoor
open Go.RowKit Nds Num
theorem Ky.usP {P:Nat→Prop}{w w':World}(h:Ky P w w'){A:Option Addr}{c:Nat}{xs:List Nat}(u:Us w A c xs)(hp:0<xs.length→∀a,A=some a→¬ P a.block):Us w' A c xs :=
 ⟨u.1,u.2.1,u.2.2.1,fun hn=>by
  obtain⟨b,off,e,hlt,hc⟩:=u.2.2.2 hn;exact⟨b,off,e,Nat.lt_of_lt_of_le hlt h.size,fun j v hv=>h.cell (hc j v hv) (show ¬ P b from hp (by simpa using hn) ⟨b,off,none⟩ e)⟩⟩
theorem Ky.hxP {P:Nat→Prop}{w w':World}(h:Ky P w w'){g:Nat}{s:Bool}{A:Option Addr}{c:Nat}{xs:List Nat}{n:Int}(x:HX w g s A c xs n)(hg:¬ P g)(hp:0<xs.length→∀a,A=some a→¬ P a.block):HX w' g s A c xs n :=
 ⟨(h.block g x.lt hg).trans x.box,h.usP x.us hp,x.cn,x.v,x.off⟩
theorem Ky.csP {P:Nat→Prop}{w w':World}(h:Ky P w w'){A:Option Addr}{c:Nat}{l:List Cv}(k:Cs w A c l)(hl:∀u∈l,(0<u.xs.length→∀a,u.ax=some a→¬ P a.block)∧(0<u.ys.length→∀a,u.ay=some a→¬ P a.block))(hb:0<l.length→∀a,A=some a→¬ P a.block):Cs w' A c l :=
 ⟨fun u hu=>⟨h.usP (k.1 u hu).1 (hl u hu).1,h.usP (k.1 u hu).2.1 (hl u hu).2,(k.1 u hu).2.2⟩,k.2.1,k.2.2.1,fun hn=>by
  obtain⟨b,off,e,hlt,hc⟩:=k.2.2.2 hn;exact⟨b,off,e,Nat.lt_of_lt_of_le hlt h.size,fun i hi=>(hc i hi).below (h.block b hlt (hb hn _ e))⟩⟩
def zkZ (M:Nat)(out:List Nd)(X Y:Int)(L:List Cl)(base:Nat)(v:Value)(w:World)(e:Ending)(w':World):Prop :=
 ∃v',e=.returned (.tuple #[v',.int .i64 (zay M out X Y L).2])∧OwnN w' base v' (zay M out X Y L).1∧(∀k,v'.ownBlock=some k→v.ownBlock=some k∨w.heap.size≤k)∧Ky (fun k=>v.ownBlock=some k) w w'
theorem znz (base M:Nat)(out:List Nd)(v:Value)(lv:Int)(Ax Ay B:Option Addr)(cx cy d:Nat)(sx sy:Bool)(xs ys:List Nat)(X Y:Int)(w:World)(h:OwnN w base v out) :
  Calls Tryz.prog 145 #[v,.int .i64 lv,.agg #[.bool sx,.slice Ax xs.length cx],.agg #[.bool sy,.slice Ay ys.length cy],.slice B 0 d] w (zkZ M out X Y [] base v w):=by
 have hb:Ky (fun k=>v.ownBlock=some k) w ((w.alloc (.cells #[.bool sx,.slice Ax xs.length cx] 48)).alloc (.cells #[.bool sy,.slice Ay ys.length cy] 48)):=((Ky.refl _ _).alloc _).alloc _;have HB:=Hh hb;have HO:=Hh ((h.alloc (.cells #[.bool sx,.slice Ax xs.length cx] 48)).alloc (.cells #[.bool sy,.slice Ay ys.length cy] 48));obtain⟨R,hR⟩:∃R,R=zkZ M out X Y [] base v w:=⟨_,rfl⟩;rw[←hR];have HR:=Hh hR;clear hb h hR;go_enter Tryz.func145,Tryz.ntmps145;go_wp2_with fail
 first|go_ret2|skip
 rw[HR.out];unfold zkZ;rw[zfg];exact⟨v,rfl,HO.out,fun k hk=>.inl hk,HB.out⟩
structure FarP (B0:Nat)(v0:Value)(Ax:Option Addr)(xs:List Nat)(Ay:Option Addr)(ys:List Nat)(B:Option Addr)(l:List Cv):Prop where
 fv:∀q,v0.ownBlock=some q→q<B0
 fx:0<xs.length→∀a,Ax=some a→a.block<B0∧v0.ownBlock≠some a.block
 fy:0<ys.length→∀a,Ay=some a→a.block<B0∧v0.ownBlock≠some a.block
 fl:∀u∈l,(0<u.xs.length→∀a,u.ax=some a→a.block<B0∧v0.ownBlock≠some a.block)∧(0<u.ys.length→∀a,u.ay=some a→a.block<B0∧v0.ownBlock≠some a.block)
 fb:0<l.length→∀a,B=some a→a.block<B0∧v0.ownBlock≠some a.block
structure PlJ (w:World)(base:Nat)(v0:Value)(B:Option Addr)(d:Nat)(l:List Cv)(sx:Bool)(Ax:Option Addr)(cx:Nat)(xs:List Nat)(X:Int)(sy:Bool)(Ay:Option Addr)(cy:Nat)(ys:List Nat)(Y:Int)(gh:Nat)(sh:Bool)(Ah:Option Addr)(ch:Nat)(hs:List Nat)(m gn:Nat)(y:Nd)(k:Nat)(v:Value)(o:List Nd)(W:World):Prop where
 b:Ky (fun q=>v0.ownBlock=some q) w W
 cs:Cs W B d l
 bx:HX W w.heap.size sx Ax cx xs X
 by_:HX W (w.heap.size+1) sy Ay cy ys Y
 bh:HX W gh sh Ah ch hs (p2 m)
 lt:w.heap.size+1<gh
 ln:gh<gn
 hl:0<hs.length→∀a,Ah=some a→w.heap.size≤a.block∧a.block<gn
 nb:zbk W gn (mix ⟨(m:Int)+1,0,0,0,0⟩ y k)
 o:OwnN W base v o
 ob:∀q,v.ownBlock=some q→v0.ownBlock=some q∨gn<q
section
variable {w:World} {base:Nat} {v0:Value} {B:Option Addr} {d:Nat} {l:List Cv} {sx:Bool} {Ax:Option Addr} {cx:Nat} {xs:List Nat} {X:Int} {sy:Bool} {Ay:Option Addr} {cy:Nat} {ys:List Nat} {Y:Int} {gh:Nat} {sh:Bool} {Ah:Option Addr} {ch:Nat} {hs:List Nat} {m gn:Nat} {y:Nd} {k:Nat} {v:Value} {o:List Nd} {W W1:World}
theorem PlJ.nextP (h:PlJ w base v0 B d l sx Ax cx xs X sy Ay cy ys Y gh sh Ah ch hs m gn y k v o W)(q:Below W.heap.size W W1):PlJ w base v0 B d l sx Ax cx xs X sy Ay cy ys Y gh sh Ah ch hs m gn y k v o W1 :=
 ⟨h.b.below q,h.cs.below q,h.bx.next q,h.by_.next q,h.bh.next q,h.lt,h.ln,h.hl,h.nb.stay (q.block gn h.nb.lt),h.o.stays q,h.ob⟩
theorem PlJ.keepP {P:Nat→Prop}(h:PlJ w base v0 B d l sx Ax cx xs X sy Ay cy ys Y gh sh Ah ch hs m gn y k v o W)(F:FarP w.heap.size v0 Ax xs Ay ys B l)(hk:Ky P W W1)(hP:∀t,t<gn→(t<w.heap.size→v0.ownBlock≠some t)→¬ P t) :
  Cs W1 B d l∧HX W1 w.heap.size sx Ax cx xs X∧HX W1 (w.heap.size+1) sy Ay cy ys Y∧HX W1 gh sh Ah ch hs (p2 m):=by
 have h1:=h.lt;have h2:=h.ln;have old:∀t,t<w.heap.size∧v0.ownBlock≠some t→¬ P t:=fun t ht=>hP t (by omega) (fun _=>ht.2);exact⟨hk.csP h.cs (fun u hu=>⟨fun h0 a ea=>old _ ((F.fl u hu).1 h0 a ea),fun h0 a ea=>old _ ((F.fl u hu).2 h0 a ea)⟩) (fun h0 a ea=>old _ (F.fb h0 a ea)),
  hk.hxP h.bx (hP _ (by omega) (fun e=>absurd e (by omega))) (fun h0 a ea=>old _ (F.fx h0 a ea)),
  hk.hxP h.by_ (hP _ (by omega) (fun e=>absurd e (by omega))) (fun h0 a ea=>old _ (F.fy h0 a ea)),
  hk.hxP h.bh (hP _ h2 (fun e=>absurd e (by omega))) (fun h0 a ea=>hP _ (h.hl h0 a ea).2 (fun e=>absurd e (by have:=(h.hl h0 a ea).1;omega)))⟩
theorem PlJ.offP (h:PlJ w base v0 B d l sx Ax cx xs X sy Ay cy ys Y gh sh Ah ch hs m gn y k v o W){t:Nat}(ht:t≤gn)(hv:t<w.heap.size→v0.ownBlock≠some t)(hf:∀q,v0.ownBlock=some q→q<w.heap.size):v.ownBlock≠some t:=fun e=>by
 rcases h.ob t e with e2|e2
 ·exact hv (hf t e2) e2
 ·omega
theorem PlJ.callP {v2:Value}{o2:List Nd}(h:PlJ w base v0 B d l sx Ax cx xs X sy Ay cy ys Y gh sh Ah ch hs m gn y k v o W)(F:FarP w.heap.size v0 Ax xs Ay ys B l)(hk:Ky (fun q=>v.ownBlock=some q) W W1)(ho:OwnN W1 base v2 o2)(h2:∀q,v2.ownBlock=some q→v.ownBlock=some q∨W.heap.size≤q) :
  PlJ w base v0 B d l sx Ax cx xs X sy Ay cy ys Y gh sh Ah ch hs m gn y k v2 o2 W1:=by
 have h0:=h.lt;have h1:=h.ln;have hgn:=h.nb.lt;obtain⟨k1,k2,k3,k4⟩:=h.keepP F hk fun t ht hv=>h.offP (by omega) hv F.fv;refine⟨h.b.trans hk (fun i hi e=>?_),k1,k2,k3,k4,h0,h1,h.hl,h.nb.stay (hk.block gn hgn (h.offP (Nat.le_refl _) (fun e=>absurd e (by omega)) F.fv)),ho,fun q hq=>?_⟩
 ·rcases h.ob i e with e2|e2
  ·exact e2
  ·omega
 ·rcases h2 q hq with e|e
  ·exact h.ob q e
  ·exact .inr (by omega)
theorem PlJ.putP (h:PlJ w base v0 B d l sx Ax cx xs X sy Ay cy ys Y gh sh Ah ch hs m gn y k v o W)(F:FarP w.heap.size v0 Ax xs Ay ys B l)(hk4:k<4){r:Nat}(hr:r=1+k){u:Int}(hu:u=y.kid k) :
  PlJ w base v0 B d l sx Ax cx xs X sy Ay cy ys Y gh sh Ah ch hs m gn y (k+1) v o (W.setCell ⟨gn,r,none⟩ (.int .i64 u)):=by
 have h0:=h.lt;have h1:=h.ln;have hk:Ky (fun q=>q=gn) W (W.setCell ⟨gn,r,none⟩ (.int .i64 u)):=Ky.set (P:=fun q=>q=gn) (Ky.refl _ _) ⟨gn,r,none⟩ (fun _=>rfl) _;obtain⟨k1,k2,k3,k4⟩:=h.keepP F hk fun t ht _ e=>by omega
 exact⟨h.b.set _ (fun e=>absurd (show gn<w.heap.size from e) (by omega)) _,k1,k2,k3,k4,h0,h1,h.hl,h.nb.setKid hk4 hr hu,h.o.gbr (zbD _ _ _) (.inr (show v.ownBlock≠some gn from h.offP (Nat.le_refl _) (fun e=>absurd e (by omega)) F.fv)),h.ob⟩
end
def sqC (X Y h:Int)(u:Cv):Bool:=sqB X Y h u.cl
theorem zuo (X Y h:Int)(l:List Cv):(l.filter (sqC X Y h)).map Cv.cl=(l.map Cv.cl).filter (sqB X Y h):=by
 rw[List.filter_map];rfl
theorem zgM {l:List Cv}{p:Cv→Bool}{i:Nat}(hi:i<l.length):(l.take (i+1)).filter p=(l.take i).filter p++(if p (cat l i)=true then [cat l i] else []):=by
 rw[List.take_succ_eq_append_getElem hi,List.filter_append];have e:cat l i=l[i]:=by
  unfold cat;rw[List.getElem?_eq_getElem hi];rfl
 rw[e];congr 1;by_cases hp:p l[i]=true
 ·rw[if_pos hp,List.filter_cons_of_pos hp,List.filter_nil]
 ·rw[if_neg hp,List.filter_cons_of_neg hp,List.filter_nil]
theorem zhs {w w':World}(hb:Below w.heap.size w w'){p:Addr}{u:Value}(h:w.cell? p=some u):w'.cell? p=some u:=(hb.cell (p:=p) (World.block_lt_of_cell? w p h)).trans h
end Go.Proofs.YtfjajpnfjjdnpaaGreatDoor
