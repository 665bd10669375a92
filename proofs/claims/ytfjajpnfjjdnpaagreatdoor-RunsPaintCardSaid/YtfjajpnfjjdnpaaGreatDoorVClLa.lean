import Derived.Test.YtfjajpnfjjdnpaaGreatDoorVLkQ
import Derived.ArgAppend

set_option linter.unusedVariables false
set_option linter.unusedSimpArgs false
set_option maxRecDepth 100000
set_option maxHeartbeats 6400000
namespace Go.Proofs.YtfjajpnfjjdnpaaGreatDoor
open Go.RowKit Nds Num
def PXY (A:Option Addr)(xs:List Nat)(B:Option Addr)(ys:List Nat):Nat→Prop:=fun q=>(0<xs.length∧∃a,A=some a∧a.block=q)∨(0<ys.length∧∃a,B=some a∧a.block=q)
structure RlB (P:Nat→Prop)(B:Nat)(wr:World)(ga gb:Nat)(sa:Bool)(Aa:Option Addr)(ca:Nat)(us:List Nat)(zx:Int)(sb:Bool)(Ab:Option Addr)(cb:Nat)(vs:List Nat)(zy:Int)(wx:World):Prop where
 b:Below wr.heap.size wr wx
 a:HX wx ga sa Aa ca us zx
 d:HX wx gb sb Ab cb vs zy
 gea:wr.heap.size≤ga
 geb:wr.heap.size≤gb
 ne:ga≠gb
 la:0<us.length→∀a,Aa=some a→wr.heap.size≤a.block∨(P a.block∧a.block<B)
 lb:0<vs.length→∀a,Ab=some a→wr.heap.size≤a.block∨(P a.block∧a.block<B)
section
variable {P:Nat→Prop} {B:Nat} {wr:World} {ga gb:Nat} {sa:Bool} {Aa:Option Addr} {ca:Nat} {us:List Nat} {zx:Int} {sb:Bool} {Ab:Option Addr} {cb:Nat} {vs:List Nat} {zy:Int} {wx W1:World}
theorem RlB.next (h:RlB P B wr ga gb sa Aa ca us zx sb Ab cb vs zy wx)(q:Below wx.heap.size wx W1):RlB P B wr ga gb sa Aa ca us zx sb Ab cb vs zy W1 :=
 ⟨h.b.trans (q.mono h.b.size),h.a.next q,h.d.next q,h.gea,h.geb,h.ne,h.la,h.lb⟩
theorem zrG {g g2:Nat}{s:Bool}{A:Option Addr}{c:Nat}{xs:List Nat}{n:Int}{s0:Bool}{A0:Option Addr}{n0 c0:Nat}(h:HX wx g s A c xs n)(hne:g≠g2)(h2:wx.heap[g2]?=some (.cells #[.bool s0,.slice A0 n0 c0] 48))(x y:Value):HX ((wx.setCell ⟨g2,0,none⟩ x).setCell ⟨g2,1,none⟩ y) g s A c xs n:=by
 have hg:=ztQ (zkY wx g2 0 x) (zkY _ g2 1 y);exact⟨(hg.block g h.lt (fun e=>hne (Option.some.inj e))).trans h.box,zcE h.us (fun q h1 h3=>hg.block q h1 (fun e=>h3 (by cases e;rfl))) hg.size (zfX h.us (zfY h2)),h.cn,h.v,h.off⟩
theorem RlB.setA (h:RlB P B wr ga gb sa Aa ca us zx sb Ab cb vs zy wx){s2:Bool}{A2:Option Addr}{c2:Nat}{xs2:List Nat}{z2:Int}(hu:Us wx A2 c2 xs2)(hc:zaE s2 xs2)(hv:ival s2 xs2=z2)(hf:FrU wr.heap.size A2) :
  RlB P B wr ga gb s2 A2 c2 xs2 z2 sb Ab cb vs zy ((wx.setCell ⟨ga,0,none⟩ (.bool s2)).setCell ⟨ga,1,none⟩ (.slice A2 xs2.length c2)) :=
 ⟨(h.b.setCell (p:=⟨ga,0,none⟩) h.gea _).setCell (p:=⟨ga,1,none⟩) h.gea _,h.a.set hu hc hv,zrG h.d h.ne.symm h.a.box _ _,h.gea,h.geb,h.ne,fun _ a ea=>.inl (hf a ea),h.lb⟩
theorem RlB.setB (h:RlB P B wr ga gb sa Aa ca us zx sb Ab cb vs zy wx){s2:Bool}{A2:Option Addr}{c2:Nat}{xs2:List Nat}{z2:Int}(hu:Us wx A2 c2 xs2)(hc:zaE s2 xs2)(hv:ival s2 xs2=z2)(hf:FrU wr.heap.size A2) :
  RlB P B wr ga gb sa Aa ca us zx s2 A2 c2 xs2 z2 ((wx.setCell ⟨gb,0,none⟩ (.bool s2)).setCell ⟨gb,1,none⟩ (.slice A2 xs2.length c2)) :=
 ⟨(h.b.setCell (p:=⟨gb,0,none⟩) h.geb _).setCell (p:=⟨gb,1,none⟩) h.geb _,zrG h.a h.ne h.d.box _ _,h.d.set hu hc hv,h.gea,h.geb,h.ne,h.la,fun _ a ea=>.inl (hf a ea)⟩
end
theorem zmg (wr:World){sx:Bool}{Ax:Option Addr}{cx:Nat}{xs:List Nat}{X:Int}{sy:Bool}{Ay:Option Addr}{cy:Nat}{ys:List Nat}{Y:Int}{P:Nat→Prop}{B gx gy:Nat}(hX:HX wr gx sx Ax cx xs X)(hY:HX wr gy sy Ay cy ys Y)
  (lx:0<xs.length→∀a,Ax=some a→P a.block∧a.block<B) (ly:0<ys.length→∀a,Ay=some a→P a.block∧a.block<B) :
  RlB P B wr wr.heap.size (wr.heap.size+1) sx Ax cx xs X sy Ay cy ys Y (((wr.alloc (.cells #[.bool sx,.slice Ax xs.length cx] 48)).alloc (.cells #[.bool sy,.slice Ay ys.length cy] 48)).drew) ∧
  RlB P B wr (wr.heap.size+1) wr.heap.size sx Ax cx xs X sy Ay cy ys Y (((wr.alloc (.cells #[.bool sy,.slice Ay ys.length cy] 48)).alloc (.cells #[.bool sx,.slice Ax xs.length cx] 48)).drew):=by
 have key:∀(s:Bool) (A:Option Addr) (c:Nat) (zs:List Nat) (t:Bool) (D:Option Addr) (d:Nat) (us:List Nat) (z u:Int),Us wr A c zs→zaE s zs→ival s zs=z→Us wr D d us→zaE t us→ival t us=u →
   Below wr.heap.size wr (((wr.alloc (.cells #[.bool s,.slice A zs.length c] 48)).alloc (.cells #[.bool t,.slice D us.length d] 48)).drew) ∧
   HX (((wr.alloc (.cells #[.bool s,.slice A zs.length c] 48)).alloc (.cells #[.bool t,.slice D us.length d] 48)).drew) wr.heap.size s A c zs z ∧
   HX (((wr.alloc (.cells #[.bool s,.slice A zs.length c] 48)).alloc (.cells #[.bool t,.slice D us.length d] 48)).drew) (wr.heap.size+1) t D d us u:=by
  intro s A c zs t D d us z u h1 h2 h3 k1 k2 k3;have hb:Below wr.heap.size wr (((wr.alloc (.cells #[.bool s,.slice A zs.length c] 48)).alloc (.cells #[.bool t,.slice D us.length d] 48)).drew):=zaa (((Below.refl _ wr).alloc (Nat.le_refl _) _).alloc (by simp) _) 1;refine⟨hb,⟨?_,h1.below hb,h2,h3,fun h0 a ea=>by have:=zbv h1 h0 a ea;omega⟩,⟨?_,k1.below hb,k2,k3,fun h0 a ea=>by have:=zbv k1 h0 a ea;omega⟩⟩
  ·exact(Below.heap_alloc _ _ _ (by simp)).trans (heap_alloc_new wr _)
  ·have h:=heap_alloc_new (wr.alloc (.cells #[.bool s,.slice A zs.length c] 48)) (.cells #[.bool t,.slice D us.length d] 48);rw[show(wr.alloc (.cells #[.bool s,.slice A zs.length c] 48)).heap.size=wr.heap.size+1 by simp] at h;exact h
 obtain⟨b1,x1,y1⟩:=key sx Ax cx xs sy Ay cy ys X Y hX.us hX.cn hX.v hY.us hY.cn hY.v;obtain⟨b2,y2,x2⟩:=key sy Ay cy ys sx Ax cx xs Y X hY.us hY.cn hY.v hX.us hX.cn hX.v;exact⟨⟨b1,x1,y1,Nat.le_refl _,Nat.le_succ _,by omega,fun h0 a ea=>.inr (lx h0 a ea),fun h0 a ea=>.inr (ly h0 a ea)⟩,⟨b2,x2,y2,Nat.le_succ _,Nat.le_refl _,by omega,fun h0 a ea=>.inr (lx h0 a ea),fun h0 a ea=>.inr (ly h0 a ea)⟩⟩
theorem znW (h:Int){k:Nat}(hk:k<4):(offI h k=0∨offI h k=h)∧(offJ h k=0∨offJ h k=h):=by
 obtain rfl|rfl|rfl|rfl:k=0∨k=1∨k=2∨k=3:=by omega
 ·exact⟨.inl rfl,.inl rfl⟩
 ·exact⟨.inr rfl,.inl rfl⟩
 ·exact⟨.inl rfl,.inr rfl⟩
 ·exact⟨.inr rfl,.inr rfl⟩
theorem zeD {X Y:Int}{m k:Nat}(h : -p2 1329≤X∧X+p2 (m+1)≤p2 1329∧-p2 1329≤Y∧Y+p2 (m+1)≤p2 1329)(hk:k<4) : -p2 1329≤X+offI (p2 m) k∧X+offI (p2 m) k+p2 m≤p2 1329∧-p2 1329≤Y+offJ (p2 m) k∧Y+offJ (p2 m) k+p2 m≤p2 1329:=by
 obtain⟨h1,h2⟩:=znW (p2 m) hk;have h3:=zau m;have h4:=zay m;omega
theorem zsD {X Y:Int}{m k:Nat}(h : -p2 1329≤X∧X+p2 (m+1)≤p2 1329∧-p2 1329≤Y∧Y+p2 (m+1)≤p2 1329)(hk:k<4) : -p2 1330≤X+offI (p2 m) k∧X+offI (p2 m) k≤p2 1330∧-p2 1330≤Y+offJ (p2 m) k∧Y+offJ (p2 m) k≤p2 1330:=by
 have h1:=zeD h hk;have h2:=zay m;have h3:p2 1330=p2 1329+p2 1329:=zau 1329;have h4:=zay 1329;omega
theorem zqC {k:Nat}{h:Int}(e:false=((k:Int)%2==1))(hk:k<4):offI h k=0:=by
 obtain rfl|rfl|rfl|rfl:k=0∨k=1∨k=2∨k=3:=by omega
 ·rfl
 ·cases e
 ·rfl
 ·cases e
theorem zqD {k:Nat}{h:Int}(e:true=((k:Int)%2==1))(hk:k<4):offI h k=h:=by
 obtain rfl|rfl|rfl|rfl:k=0∨k=1∨k=2∨k=3:=by omega
 ·cases e
 ·rfl
 ·cases e
 ·rfl
theorem znX {k:Nat}{h:Int}(e:false=decide ((k:Int)>1))(hk:k<4):offJ h k=0:=by
 obtain rfl|rfl|rfl|rfl:k=0∨k=1∨k=2∨k=3:=by omega
 ·rfl
 ·rfl
 ·cases e
 ·cases e
theorem znY {k:Nat}{h:Int}(e:true=decide ((k:Int)>1))(hk:k<4):offJ h k=h:=by
 obtain rfl|rfl|rfl|rfl:k=0∨k=1∨k=2∨k=3:=by omega
 ·cases e
 ·cases e
 ·rfl
 ·rfl
end Go.Proofs.YtfjajpnfjjdnpaaGreatDoor

namespace Go.Proofs.YtfjajpnfjjdnpaaGreatDoor
open Go.RowKit Nds Num Go.Shelf
theorem OwnC.mono {w:World}{base base':Nat}{v:Value}{l:List Cv}(h:OwnC w base v l)(hb:base'≤base):OwnC w base' v l:=by
 refine⟨h.1,?_⟩;rcases h.2 with h|⟨g,cap,cur,e,hb',rest⟩
 ·exact .inl h
 ·exact .inr ⟨g,cap,cur,e,by omega,rest⟩
end Go.Proofs.YtfjajpnfjjdnpaaGreatDoor

namespace Go.Proofs.YtfjajpnfjjdnpaaGreatDoor
open Go.RowKit Nds Num
theorem znZ {v u:Cv}:ordC v u<0↔ltB v.cl u.cl=true:=by
 rw[zhz];unfold ordC ltC Cv.cl;dsimp only;split
 ·rename_i h;rw[zcV] at h;rw[zkW];omega
 ·rename_i h;rw[zcV] at h;rw[zkW];omega
theorem zoa {v u:Cv}:ordC v u=0↔(v.cl.x=u.cl.x∧v.cl.y=u.cl.y):=by
 unfold ordC Cv.cl;dsimp only;split
 ·rename_i h;rw[zcV] at h;rw[zcV];exact⟨fun e=>⟨e,h⟩,fun e=>e.1⟩
 ·rename_i h;rw[zcV] at h ⊢;exact⟨fun e=>absurd e h,fun e=>absurd e.2 h⟩
def insV:List Cv→Cv→List Cv
 | [],c=>[c]
 | a :: l,c=>if ordC a c<0 then a :: insV l c else if ordC a c=0 then c :: l else c :: a :: l
theorem zob:∀(l:List Cv) (c:Cv),(insV l c).map Cv.cl=insC (l.map Cv.cl) c.cl
 | [],c=>rfl
 | a :: l,c=>by
  rw[List.map_cons];unfold insV insC;by_cases h1:ordC a c<0
  ·rw[if_pos h1,if_pos (znZ.1 h1),List.map_cons,zob l c]
  ·rw[if_neg h1,if_neg (fun e=>h1 (znZ.2 e))];by_cases h2:ordC a c=0
   ·rw[if_pos h2,if_pos (zoa.1 h2)];rfl
   ·rw[if_neg h2,if_neg (fun e=>h2 (zoa.2 e))];rfl
theorem zkZ:∀{l:List Cv} {c d:Cv},d∈insV l c→d=c∨d∈l
 | [],c,d,h=>.inl (List.mem_singleton.1 h)
 | a :: l,c,d,h=>by
  unfold insV at h;split at h
  ·rcases List.mem_cons.1 h with h|h
   ·exact .inr (by simp[h])
   ·rcases zkZ h with h|h
    ·exact .inl h
    ·exact .inr (by simp[h])
  ·split at h
   ·rcases List.mem_cons.1 h with h|h
    ·exact .inl h
    ·exact .inr (by simp[h])
   ·rcases List.mem_cons.1 h with h|h
    ·exact .inl h
    ·exact .inr h
theorem zla:∀(l:List Cv) (c:Cv),(insV l c).length≤l.length+1
 | [],c=>Nat.le_refl _
 | a :: l,c=>by
  unfold insV;split
  ·have:=zla l c;simp only[List.length_cons];omega
  ·split <;> simp
theorem zoc:∀(l:List Cv) (c:Cv) (p:Nat),p≤l.length→(∀j,j<p→ordC (cat l j) c<0)→(p<l.length→¬ ordC (cat l p) c<0) →
  insV l c=(l.take p++[c])++(l.drop p).drop (if p<l.length∧ordC (cat l p) c=0 then 1 else 0)
 | [],c,p,h,_,_=>by
  obtain rfl:p=0:=by simpa using h
  rfl
 | a :: l,c,0,_,_,h3=>by
  have h4:¬ ordC a c<0:=h3 (by simp);unfold insV;rw[if_neg h4];by_cases h5:ordC a c=0
  ·rw[if_pos h5,if_pos ⟨by simp,h5⟩];rfl
  ·rw[if_neg h5,if_neg (fun e=>h5 e.2)];rfl
 | a :: l,c,p+1,h1,h2,h3=>by
  have h4:ordC a c<0:=h2 0 (by omega);have ih:=zoc l c p (by simpa using h1) (fun j hj=>h2 (j+1) (by omega)) (fun hp=>h3 (by simpa using hp));unfold insV;rw[if_pos h4,ih];have e:(p+1<(a :: l).length∧ordC (cat (a :: l) (p+1)) c=0)↔(p<l.length∧ordC (cat l p) c=0):=by
   rw[List.length_cons,Nat.add_lt_add_iff_right];rfl
  simp only[e,List.take_succ_cons,List.drop_succ_cons,List.cons_append]
def zea (l:List Cv):List Cv:=l.foldl insV []
theorem zgP (l:List Cv)(c:Cv):zea (l++[c])=insV (zea l) c:=by
 unfold zea;rw[List.foldl_append];rfl
theorem zgQ (l:List Cv):∀k,k≤l.length→(zea (l.take k)).map Cv.cl=zcH ((l.take k).map Cv.cl)∧(∀u∈zea (l.take k),u∈l)∧(zea (l.take k)).length≤k:=by
 intro k
 induction k with
 | zero=>exact fun _=>⟨rfl,(fun u hu=>by cases hu),Nat.le_refl _⟩
 | succ k ih =>
  intro hk;obtain⟨i1,i2,i3⟩:=ih (by omega);rw[List.take_succ_eq_append_getElem (by omega),zgP];refine⟨?_,fun u hu=>?_,?_⟩
  ·rw[zob,i1,List.map_append,List.map_singleton,zfS]
  ·rcases zkZ hu with rfl|hu
   ·exact List.getElem_mem _
   ·exact i2 u hu
  ·have:=zla (zea (l.take k)) l[k];omega
theorem zmh (l:List Cv){k:Nat}(hk:k<l.length):zea (l.take (k+1))=insV (zea (l.take k)) (cat l k):=by
 rw[List.take_succ_eq_append_getElem hk,zgP,zhG hk]
theorem Cs.cut {w:World}{A:Option Addr}{c:Nat}{l:List Cv}(h:Cs w A c l)(k:Nat):Cs w A c (l.take k):=by
 refine⟨fun v hv=>h.1 v (List.mem_of_mem_take hv),Nat.le_trans (by rw[List.length_take];omega) h.2.1,h.2.2.1,fun hn=>?_⟩;rw[List.length_take] at hn;obtain⟨b,off,e,hb,hc⟩:=h.2.2.2 (by omega);refine⟨b,off,e,hb,fun i hi=>?_⟩;rw[List.length_take] at hi;have e2:cat (l.take k) i=cat l i:=by
  unfold cat;rw[List.getElem?_take,if_pos (by omega)]
 rw[e2];exact hc i (by omega)
theorem Cs.rest {w:World}{b off c:Nat}{l:List Cv}(h:Cs w (some ⟨b,off,none⟩) c l){k:Nat}(hk:k≤l.length):Cs w (some ⟨b,off+k*5,none⟩) (c-k) (l.drop k):=by
 refine⟨fun v hv=>h.1 v (List.mem_of_mem_drop hv),by have:=h.2.1;rw[List.length_drop];omega,by have:=h.2.2.1;omega,fun hn=>?_⟩;rw[List.length_drop] at hn;obtain⟨b',off',e,hb,hc⟩:=h.2.2.2 (by omega);cases e;refine⟨b,off+k*5,rfl,hb,fun i hi=>?_⟩;rw[List.length_drop] at hi;have e2:cat (l.drop k) i=cat l (k+i):=by
  unfold cat;rw[List.getElem?_drop]
 rw[e2,show off+k*5+i*5=off+(k+i)*5 by omega];exact hc (k+i) (by omega)
theorem zgy (w:World)(y:Cv)(ty:TypeId)(A:Option Addr)(p d:Nat)(xs:List Cv)(ad:Addr)(hp:xs.length=p)(hN:Cs w A d xs)(hA:A=none→p=0)(hy:∀j u,(cvcs [y])[j]?=some u→w.cell? (ad.add j)=some u)(c:Nat)(hs:p+1≤1000000) :
  ∃v' w',(Builtin.append_ #[22,22] ty #[.slice A p p,.slice (some ad) 1 c]).run Tryz.prog w=.ok v' w'∧OwnC w' w.heap.size v' (xs++[y])∧w.grownBy w' none:=by
 obtain⟨i0,hi,hz0,hz1,hz2⟩:=info_parts Tryz.infoC;subst hp;cases A with
 | none =>
  have h0:=List.eq_nil_of_length_eq_zero (hA rfl);subst h0;obtain⟨v',w',hrun,h1,h2,_⟩:=zbb w w.heap.size (.slice none 0 0) [] [y] ty ad 1 c (OwnC.nil w _) hy rfl (by simp) (Nat.le_refl _);exact⟨v',w',hrun,h1,h2⟩
 | some b =>
  obtain⟨v',w',hrun,h1,h2⟩:=run_append_arg_grows (P:=Tryz.prog) w 22 ty 78 i0 (cvv cv0) 5 72 Tryz.underlying22 hi hz0 hz1 hz2 rfl (by omega) b xs.length xs.length (cvcs xs) (zdY xs) (hN.cells rfl) ad 1 c (cvcs [y]) (zdY [y]) hy (by omega) (by simp only[maxLen];omega) (by omega);refine⟨v',w',hrun,?_,h2⟩;unfold OwnC;rw[zkX,List.length_append];exact h1
theorem zaF {w:World}{o:Oper}{a:Act}{K:Act→World→Prop}{Q:Exit→Act→World→Prop}(s x:Operand)
  (hop:o.op=Op.call { callee:=Callee.builtin Builtin.append,args:=#[s,x],argTypes:=#[22,22] }) (y:Cv) (A:Option Addr) (p d:Nat) (xs:List Cv) (ad:Addr) (c:Nat)
  (hs:a.eval s=.slice A p p) (hx:a.eval x=.slice (some ad) 1 c) (hp:xs.length=p) (hN:Cs w A d xs) (hA:A=none→p=0) (hy:∀j u,(cvcs [y])[j]?=some u→w.cell? (ad.add j)=some u) (hsz:p+1≤1000000)
  (h:∀v' w',OwnC w' w.heap.size v' (xs++[y])→w.grownBy w' none→K (a.put o.dst v') w'):Oper.wp Tryz.prog o a w K Q:=by
 obtain⟨v',w',hrun,h1,h2⟩:=zgy w y o.type A p d xs ad hp hN hA hy c hsz;unfold Oper.wp execOp;simp only[hop,resolve,invoke,builtin,Sem.run_bind,Sem.run_pure,Result.andThen_ok,List.map_toArray,List.map_cons,List.map_nil,hs,hx,hrun];exact h v' w' h1 h2
theorem zaM {w:World}{o:Oper}{a:Act}{K:Act→World→Prop}{Q:Exit→Act→World→Prop}(s x:Operand)
  (hop:o.op=Op.call { callee:=Callee.builtin Builtin.append,args:=#[s,x],argTypes:=#[22,22] }) (base:Nat) (v:Value) (xs ys:List Cv) (A:Option Addr) (m c:Nat)
  (hs:a.eval s=v) (hx:a.eval x=.slice A m c) (how:OwnC w base v xs) (hN:Cs w A c ys) (hm:ys.length=m) (hA:A=none→c=0) (hsz:xs.length+m≤1000000) (hb:base≤w.heap.size)
  (h:∀v' w',OwnC w' base v' (xs++ys)→w.grownBy w' v.ownBlock→(v'.ownBlock=v.ownBlock∨v'.ownBlock=some w.heap.size)→K (a.put o.dst v') w'):Oper.wp Tryz.prog o a w K Q:=by
 obtain⟨v',w',hrun,h1,h2,h3⟩:=zdZ w base v xs ys o.type A m c how hN hm hA hsz hb;unfold Oper.wp execOp;simp only[hop,resolve,invoke,builtin,Sem.run_bind,Sem.run_pure,Result.andThen_ok,List.map_toArray,List.map_cons,List.map_nil,hs,hx,hrun];exact h v' w' h1 h2 h3
theorem zhM (w:World)(A:Option Addr){c:Nat}(h:c≤maxLen):Cs w A c []:=⟨(fun v hv=>by cases hv),Nat.zero_le _,h,fun h0=>absurd h0 (Nat.lt_irrefl 0)⟩
theorem zcs (w:World){base:Nat}(h:base≤w.heap.size):OwnC (w.alloc (.cells #[] 78)) base (.slice (some ⟨w.heap.size,0,none⟩) 0 0) []:=World.ownsRow_made w #[] 0 h (by simp[maxLen]) rfl
theorem zod {l M:List Cv}{i p:Nat}{x:Cv}(hM:M=zea (l.take i))(hx:x=cat l i)(hi:i<l.length)(hp:p≤M.length)(h1:∀j,j<p→ordC (cat M j) x<0)(h2:p<M.length→¬ ordC (cat M p) x<0) :
  zea (l.take (i+1))=(M.take p++[x])++(M.drop p).drop (if p<M.length∧ordC (cat M p) x=0 then 1 else 0):=by
 rw[zmh l hi,←hM,←hx];exact zoc M x p hp h1 h2
theorem zgb:∀M:List Cv,(M.filter fun u=>u.st != 0).map Cv.cl=(M.map Cv.cl).filter fun c=>c.s != 0
 | []=>rfl
 | u :: M=>by
  have e:(u.cl.s != 0)=(u.st != 0):=by
   show(((u.st:Nat):Int)!=0)=_;rw[Bool.eq_iff_iff];simp
  rw[List.map_cons,List.filter_cons,List.filter_cons,e];split
  ·rw[List.map_cons,zgb M]
  ·exact zgb M
theorem zsE {l M:List Cv}{n:Nat}(hM:M=zea (l.take n))(hn:l.length=n):(M.filter fun u=>u.st != 0).map Cv.cl=zbo (l.map Cv.cl):=by
 subst hn;rw[zgb,hM,(zgQ l l.length (Nat.le_refl _)).1,List.take_length];rfl
theorem zjK {M:List Cv}{q:Nat}{y:Cv}(hq:q<M.length)(hy:y=cat M q):(M.take (q+1)).filter (fun u=>u.st != 0)=(M.take q).filter (fun u=>u.st != 0)++(if y.st=0 then [] else [y]):=by
 rw[List.take_succ_eq_append_getElem hq,List.filter_append,←zhG hq,←hy];congr 1;rw[List.filter_cons,List.filter_nil];by_cases h:y.st=0
 ·rw[if_pos h,if_neg (by rw[h];decide)]
 ·rw[if_neg h,if_pos (by simpa using h)]
end Go.Proofs.YtfjajpnfjjdnpaaGreatDoor
