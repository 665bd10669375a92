import Derived.Test.YtbabbmdpgpcgjaaGreatDoorHBxT

set_option linter.unusedVariables false
set_option linter.unusedSimpArgs false
set_option maxRecDepth 100000
set_option maxHeartbeats 6400000
namespace Go.Proofs.YtbabbmdpgpcgjaaGreatDoor
open Go.RowKit Num Nds
def xb0:Xb:=⟨bw0,bw0,bw0,bw0⟩
def zkF (l:List Nd)(ax n:Nat)(X Y:Int):Prop:=EdS ax 0 (at_ l (n-1)).lv.toNat (fun u=>u=den l n) (edZ 0 (at_ l (n-1)).lv.toNat X)∧EdS ax 1 (at_ l (n-1)).lv.toNat (fun u=>u=den l n) (edZ 1 (at_ l (n-1)).lv.toNat Y)
theorem zkF.low {l:List Nd}{ax n:Nat}{X Y:Int}(h:zkF l ax n X Y)(hg:zas l)(hn:l.length=n)(h0:0<n):(-p2 1328≤X∧X≤p2 1328)∧-p2 1328≤Y∧Y≤p2 1328:=by
 have hlv:=zaH (zaq hg.1 (i:=n-1) (by omega));have hw:=zbY hg.1 (n-1) (by omega);rw[Nat.sub_add_cancel (by omega)] at hw;obtain⟨top,htop⟩:∃top:Nat,(at_ l (n-1)).lv=(top:Int):=⟨(at_ l (n-1)).lv.toNat,by omega⟩;obtain⟨h1,h2⟩:=h;rw[htop] at hlv hw h1 h2;rw[Int.toNat_natCast] at h1 h2;have e1:=h1.in_ (fun t ht=>by have ht':t=den l n:=ht;rw[ht'];exact hw);have e2:=h2.in_ (fun t ht=>by have ht':t=den l n:=ht;rw[ht'];exact hw);have m2:=zaw (show top-1≤1328 by omega);have m3:=zap (top-1);rw[Nat.sub_add_cancel (by omega)] at m3;unfold edZ at e1 e2;rw[if_pos rfl] at e1;rw[if_neg (by omega)] at e2;omega
structure OfI (w:World)(A:Option Addr)(c n:Nat)(l:List Nd)(j:Nat)(p q:Bool)(v4 v5 t12 t14:Value)(W:World):Prop where
 b:Below w.heap.size w W
 x:W.heap[w.heap.size]?=some (.cells #[.slice A n c] 27)
 r:W.heap[w.heap.size+1]?=some xb0.obj
 s4:p=true→∃g,v4=.pointer (some ⟨g,0,none⟩)∧W.heap[g]?=some (twoO bw0 bw0)∧w.heap.size+2≤g
 s5:q=true→∃g,v5=.pointer (some ⟨g,0,none⟩)∧W.heap[g]?=some (twoO bw0 bw0)∧w.heap.size+2≤g
 ne:p=true→q=true→¬ v4=v5
 c1:1≤j→∃(u v:Bw) (X Y:Int),t12=twoV u v∧u.R W X∧v.R W Y∧zkF l 0 n X Y
 c2:2≤j→∃(u v:Bw) (X Y:Int),t14=twoV u v∧u.R W X∧v.R W Y∧zkF l 1 n X Y
section
variable {w W W':World} {A:Option Addr} {c n j:Nat} {l:List Nd} {p q:Bool} {v4 v5 t12 t14 t:Value} {e:Ending}
theorem OfI.next (h:OfI w A c n l j p q v4 v5 t12 t14 W)(k:Below W.heap.size W W'):OfI w A c n l j p q v4 v5 t12 t14 W' :=
 ⟨h.b.trans (k.mono h.b.size),(k.block _ (Array.getElem?_eq_some_iff.1 h.x).1).trans h.x,(k.block _ (Array.getElem?_eq_some_iff.1 h.r).1).trans h.r,fun e=>by
  obtain⟨g,h1,h2,h3⟩:=h.s4 e;exact⟨g,h1,(k.block _ (Array.getElem?_eq_some_iff.1 h2).1).trans h2,h3⟩,fun e=>by
  obtain⟨g,h1,h2,h3⟩:=h.s5 e;exact⟨g,h1,(k.block _ (Array.getElem?_eq_some_iff.1 h2).1).trans h2,h3⟩,h.ne,fun e=>by
  obtain⟨u,v,X,Y,h1,h2,h3,h4⟩:=h.c1 e;exact⟨u,v,X,Y,h1,h2.next k,h3.next k,h4⟩,fun e=>by
  obtain⟨u,v,X,Y,h1,h2,h3,h4⟩:=h.c2 e;exact⟨u,v,X,Y,h1,h2.next k,h3.next k,h4⟩⟩
theorem OfI.call1 (h:OfI w A c n l 0 p q v4 v5 t12 t14 W)(k:zqS l 0 n W (.returned t) W'):OfI w A c n l 1 p q v4 v5 t t14 W':=by
 obtain⟨u,v,X,Y,h1,h2,h3,h4,h5,h6⟩:=k;have hn:=h.next h6;injection h1 with h1
 exact⟨hn.b,hn.x,hn.r,hn.s4,hn.s5,hn.ne,fun _=>⟨u,v,X,Y,h1,h2,h3,h4,h5⟩,fun e=>by omega⟩
theorem OfI.call2 (h:OfI w A c n l 1 p q v4 v5 t12 t14 W)(k:zqS l 1 n W (.returned t) W'):OfI w A c n l 2 p q v4 v5 t12 t W':=by
 obtain⟨u,v,X,Y,h1,h2,h3,h4,h5,h6⟩:=k;have hn:=h.next h6;injection h1 with h1
 exact⟨hn.b,hn.x,hn.r,hn.s4,hn.s5,hn.ne,fun _=>hn.c1 (by omega),fun _=>⟨u,v,X,Y,h1,h2,h3,h4,h5⟩⟩
theorem OfI.allocP (h:OfI w A c n l j false q v4 v5 t12 t14 W):OfI w A c n l j true q (.pointer (some ⟨W.heap.size,0,none⟩)) v5 t12 t14 (W.alloc (twoO bw0 bw0)):=by
 have hn:=h.next ((Below.refl W.heap.size W).alloc (Nat.le_refl _) (twoO bw0 bw0));have hr:=(Array.getElem?_eq_some_iff.1 h.r).1;exact⟨hn.b,hn.x,hn.r,fun _=>⟨_,rfl,heap_alloc_new W _,by omega⟩,hn.s5,fun _ eq e=>by
  obtain⟨g,h1,h2,-⟩:=h.s5 eq;rw[←e] at h1;injection h1 with h1
  injection h1 with h1
  injection h1 with h1
  have h3:=(Array.getElem?_eq_some_iff.1 h2).1;omega,hn.c1,hn.c2⟩
theorem OfI.allocQ (h:OfI w A c n l j p false v4 v5 t12 t14 W):OfI w A c n l j p true v4 (.pointer (some ⟨W.heap.size,0,none⟩)) t12 t14 (W.alloc (twoO bw0 bw0)):=by
 have hn:=h.next ((Below.refl W.heap.size W).alloc (Nat.le_refl _) (twoO bw0 bw0));have hr:=(Array.getElem?_eq_some_iff.1 h.r).1;exact⟨hn.b,hn.x,hn.r,hn.s4,fun _=>⟨_,rfl,heap_alloc_new W _,by omega⟩,fun ep _ e=>by
  obtain⟨g,h1,h2,-⟩:=h.s4 ep;rw[e] at h1;injection h1 with h1
  injection h1 with h1
  injection h1 with h1
  have h3:=(Array.getElem?_eq_some_iff.1 h2).1;omega,hn.c1,hn.c2⟩
end
def put2 (W:World)(g:Nat)(u v:Bw):World:=(((W.setCell ⟨g,0,none⟩ (.bool u.s)).setCell ⟨g,1,none⟩ (.slice u.a u.xs.length u.c)).setCell ⟨g,2,none⟩ (.bool v.s)).setCell ⟨g,3,none⟩ (.slice v.a v.xs.length v.c)
theorem zqT {W:World}{g:Nat}{a b:Bw}(h:W.heap[g]?=some (twoO a b))(u v:Bw):(put2 W g u v).heap[g]?=some (twoO u v) :=
 (heap_setCell_same _ _ 3 _ _ _ (heap_setCell_same _ _ 2 _ _ _ (heap_setCell_same _ _ 1 _ _ _ (heap_setCell_same W _ 0 _ _ _ h)))).trans rfl
theorem zdm {W:World}{g k:Nat}(hk:k≠g)(u v:Bw):(put2 W g u v).heap[k]?=W.heap[k]? :=
 (((Below.heap_setCell _ _ _ _ hk).trans (Below.heap_setCell _ _ _ _ hk)).trans (Below.heap_setCell _ _ _ _ hk)).trans (Below.heap_setCell _ _ _ _ hk)
theorem zqU (W:World)(g:Nat)(u v:Bw):(put2 W g u v).heap.size=W.heap.size:=by simp[put2,World.setCell]
theorem ziu {B:Nat}{w W:World}(h:Below B w W){g:Nat}(hg:B≤g)(u v:Bw):Below B w (put2 W g u v) :=
 ((((h.setCell (p:=⟨g,0,none⟩) hg _).setCell (p:=⟨g,1,none⟩) hg _).setCell (p:=⟨g,2,none⟩) hg _).setCell (p:=⟨g,3,none⟩) hg _)
theorem Bw.R.put2 {x:Bw}{W:World}{X:Int}(h:x.R W X){g:Nat}{a b:Bw}(hb:W.heap[g]?=some (twoO a b))(u v:Bw):x.R (put2 W g u v) X :=
 ⟨zbt h.us (fun q _ hq=>zdm hq u v) (by rw[zqU];exact Nat.le_refl _) (zbS h.us (zkE hb)),h.cn,h.v⟩
def BoC (w:World)(l:List Nd)(n:Nat)(s4 s5:Value)(W:World):Prop :=
 ∃(g4 g5:Nat) (u v x y:Bw) (X Y Z T:Int),s4=.pointer (some ⟨g4,0,none⟩)∧s5=.pointer (some ⟨g5,0,none⟩)∧W.heap[g4]?=some (twoO u v)∧W.heap[g5]?=some (twoO x y)∧u.R W X∧v.R W Y∧x.R W Z∧y.R W T∧zkF l 0 n X Y∧zkF l 1 n Z T∧Below w.heap.size w W∧W.heap[w.heap.size+1]?=some xb0.obj∧w.heap.size+2≤g4∧w.heap.size+2≤g5
theorem OfI.last {w W:World}{A:Option Addr}{c n:Nat}{l:List Nd}{v4 v5 t12 t14:Value}(h:OfI w A c n l 2 true true v4 v5 t12 t14 W) :
  ∃(g4 g5:Nat) (u v x y:Bw),v4=.pointer (some ⟨g4,0,none⟩)∧v5=.pointer (some ⟨g5,0,none⟩)∧t12=twoV u v∧t14=twoV x y∧¬ g4=g5∧¬ g5=g4∧¬ w.heap.size=g4∧¬ w.heap.size=g5∧W.heap[g4]?=some (twoO bw0 bw0)∧(put2 W g4 u v).heap[g5]?=some (twoO bw0 bw0) ∧
   BoC w l n v4 v5 (put2 (put2 W g4 u v) g5 x y):=by
 obtain⟨g4,rfl,h1,h2⟩:=h.s4 rfl;obtain⟨g5,rfl,h3,h4⟩:=h.s5 rfl;obtain⟨u,v,X,Y,rfl,ru,rv,s1⟩:=h.c1 (by omega);obtain⟨x,y,Z,T,rfl,rx,ry,s2⟩:=h.c2 (by omega);have hne:¬ g4=g5:=fun e=>h.ne rfl rfl (by rw[e]);have h5:(put2 W g4 u v).heap[g5]?=some (twoO bw0 bw0):=(zdm (fun e=>hne e.symm) u v).trans h3;refine⟨g4,g5,u,v,x,y,rfl,rfl,rfl,rfl,hne,fun e=>hne e.symm,by omega,by omega,h1,h5,g4,g5,u,v,x,y,X,Y,Z,T,rfl,rfl,(zdm hne x y).trans (zqT h1 u v),zqT h5 x y,(ru.put2 h1 u v).put2 h5 x y,(rv.put2 h1 u v).put2 h5 x y,(rx.put2 h1 u v).put2 h5 x y,(ry.put2 h1 u v).put2 h5 x y,s1,s2,ziu (ziu h.b (show _≤g4 by omega) u v) (show _≤g5 by omega) x y,(zdm (by omega) x y).trans ((zdm (by omega) u v).trans h.r),h2,h4⟩
theorem zgk (n c:Nat)(A:Option Addr)(l:List Nd)(w:World)(h:Ns w A c l)(hn:l.length=n)(h0:0<n)(hn9:n≤900000)(hg:zas l) :
  Calls Tryz.prog 149 #[.agg #[.slice A n c],.int .i64 0] w (zqS l 0 n w):=zit 0 n c A l w h hn h0 hn9 hg (by omega)
theorem zgl (n c:Nat)(A:Option Addr)(l:List Nd)(w:World)(h:Ns w A c l)(hn:l.length=n)(h0:0<n)(hn9:n≤900000)(hg:zas l) :
  Calls Tryz.prog 149 #[.agg #[.slice A n c],.int .i64 1] w (zqS l 1 n w):=zit 1 n c A l w h hn h0 hn9 hg (by omega)
def zov (l:List Nd)(n:Nat)(w:World)(e:Ending)(w':World):Prop :=
 ∃(u:Xb) (X Y V H:Int) (ok:Bool),e=.returned (.tuple #[u.val,.bool ok])∧u.R w' X Y V H∧u.Sh∧Below w.heap.size w w' ∧
  ((n=0∧ok=false∧X=0∧Y=0∧V=0∧H=0)∨(0<n∧ok=true∧BoxT (den l n) (at_ l (n-1)).lv.toNat X Y V H))
theorem zhp (W:World):bw0.R W 0:=⟨Us.nil W,⟨zbe,by simp[bw0]⟩,rfl⟩
theorem Xb.cellsF {W:World}{g:Nat}{u:Xb}(h:W.heap[g]?=some u.obj):W.frozen? ⟨g,0,none⟩=false∧W.frozen? ⟨g,1,none⟩=false∧W.frozen? ⟨g,2,none⟩=false∧W.frozen? ⟨g,3,none⟩=false∧W.frozen? ⟨g,4,none⟩=false∧W.frozen? ⟨g,5,none⟩=false∧W.frozen? ⟨g,6,none⟩=false∧W.frozen? ⟨g,7,none⟩=false:=by
 refine⟨?_,?_,?_,?_,?_,?_,?_,?_⟩ <;> exact frozen_of_row W g _ _ _ h
theorem zwm {W:World}{g:Nat}{u:Xb}(h:W.heap[g]?=some u.obj):∀o x,W.cell? ⟨g,o,none⟩=some x→∀k,x≠.int .u32 k:=fun o x hx k e=>by
 subst e;rw[cell_of_row W g _ _ _ _ h] at hx
 match o with
 | 0=>simp at hx
 | 1=>simp at hx
 | 2=>simp at hx
 | 3=>simp at hx
 | 4=>simp at hx
 | 5=>simp at hx
 | 6=>simp at hx
 | 7=>simp at hx
 | o+8=>simp at hx
def putX (W:World)(g:Nat)(b:Xb):World:=(((((((W.setCell ⟨g,0,none⟩ (.bool b.x.s)).setCell ⟨g,1,none⟩ (.slice b.x.a b.x.xs.length b.x.c)).setCell ⟨g,2,none⟩ (.bool b.y.s)).setCell ⟨g,3,none⟩ (.slice b.y.a b.y.xs.length b.y.c)).setCell ⟨g,4,none⟩ (.bool b.w.s)).setCell ⟨g,5,none⟩ (.slice b.w.a b.w.xs.length b.w.c)).setCell ⟨g,6,none⟩ (.bool b.h.s)).setCell ⟨g,7,none⟩ (.slice b.h.a b.h.xs.length b.h.c)
theorem zqV {W:World}{g:Nat}{a0 a1 a2 a3 a4 a5 a6 a7 b0 b1 b2 b3:Value}{t:TypeId}(h:W.heap[g]?=some (.cells #[a0,a1,a2,a3,a4,a5,a6,a7] t)) :
  ((((W.setCell ⟨g,0,none⟩ b0).setCell ⟨g,1,none⟩ b1).setCell ⟨g,2,none⟩ b2).setCell ⟨g,3,none⟩ b3).heap[g]?=some (.cells #[b0,b1,b2,b3,a4,a5,a6,a7] t) :=
 (heap_setCell_same _ _ 3 _ _ _ (heap_setCell_same _ _ 2 _ _ _ (heap_setCell_same _ _ 1 _ _ _ (heap_setCell_same W _ 0 _ _ _ h)))).trans rfl
theorem zqW {W:World}{g:Nat}{a0 a1 a2 a3 a4 a5 a6 a7 b0 b1 b2 b3:Value}{t:TypeId}(h:W.heap[g]?=some (.cells #[a0,a1,a2,a3,a4,a5,a6,a7] t)) :
  ((((W.setCell ⟨g,4,none⟩ b0).setCell ⟨g,5,none⟩ b1).setCell ⟨g,6,none⟩ b2).setCell ⟨g,7,none⟩ b3).heap[g]?=some (.cells #[a0,a1,a2,a3,b0,b1,b2,b3] t) :=
 (heap_setCell_same _ _ 7 _ _ _ (heap_setCell_same _ _ 6 _ _ _ (heap_setCell_same _ _ 5 _ _ _ (heap_setCell_same W _ 4 _ _ _ h)))).trans rfl
theorem zqX {W:World}{g:Nat}{a:Xb}(h:W.heap[g]?=some a.obj)(b:Xb):(putX W g b).heap[g]?=some b.obj:=zqW (zqV h)
theorem zgm {W:World}{g k:Nat}(hk:k≠g)(b:Xb):(putX W g b).heap[k]?=W.heap[k]? :=
 (((((((Below.heap_setCell _ _ _ _ hk).trans (Below.heap_setCell _ _ _ _ hk)).trans (Below.heap_setCell _ _ _ _ hk)).trans (Below.heap_setCell _ _ _ _ hk)).trans (Below.heap_setCell _ _ _ _ hk)).trans (Below.heap_setCell _ _ _ _ hk)).trans (Below.heap_setCell _ _ _ _ hk)).trans (Below.heap_setCell _ _ _ _ hk)
theorem zqY (W:World)(g:Nat)(b:Xb):(putX W g b).heap.size=W.heap.size:=by simp[putX,World.setCell]
theorem ziv {B:Nat}{w W:World}(h:Below B w W){g:Nat}(hg:B≤g)(b:Xb):Below B w (putX W g b) :=
 (((((((h.setCell (p:=⟨g,0,none⟩) hg _).setCell (p:=⟨g,1,none⟩) hg _).setCell (p:=⟨g,2,none⟩) hg _).setCell (p:=⟨g,3,none⟩) hg _).setCell (p:=⟨g,4,none⟩) hg _).setCell (p:=⟨g,5,none⟩) hg _).setCell (p:=⟨g,6,none⟩) hg _).setCell (p:=⟨g,7,none⟩) hg _
theorem Bw.R.putX {x:Bw}{W:World}{X:Int}(h:x.R W X){g:Nat}{a:Xb}(hb:W.heap[g]?=some a.obj)(b:Xb):x.R (putX W g b) X :=
 ⟨zbt h.us (fun q _ hq=>zgm hq b) (by rw[zqY];exact Nat.le_refl _) (zbS h.us (zwm hb)),h.cn,h.v⟩
theorem ztJ {l:List Nd}{n:Nat}{X Y Z T:Int}(h:zkF l 0 n X Y)(k:zkF l 1 n Z T):BoxT (den l n) (at_ l (n-1)).lv.toNat X Z (Y-X+1) (T-Z+1):=by
 obtain⟨h1,h2⟩:=h;obtain⟨h3,h4⟩:=k;unfold edZ at h1 h2 h3 h4;rw[if_pos rfl] at h1 h3;rw[if_neg (by omega)] at h2 h4;refine⟨h1,h3,?_,?_⟩
 ·generalize (at_ l (n-1)).lv.toNat=top at *;rw[show p2 top-(Y-X+1)-(X+p2 (top-1))=p2 top-1-(Y+p2 (top-1)) by omega];exact h2
 ·generalize (at_ l (n-1)).lv.toNat=top at *;rw[show p2 top-(T-Z+1)-(Z+p2 (top-1))=p2 top-1-(T+p2 (top-1)) by omega];exact h4
theorem ztK (A:Option Addr)(c:Nat)(w:World):Calls Tryz.prog 105 #[.agg #[.slice A 0 c]] w (zov [] 0 w):=by
 have b1:=(Below.refl w.heap.size w).alloc (Nat.le_refl _) (.cells #[.slice A 0 c] 27);have b2:=b1.alloc (by simp) xb0.obj;have hr:=heap_alloc_new (w.alloc (.cells #[.slice A 0 c] 27)) xb0.obj;rw[World.size_alloc] at hr;obtain⟨e0,e1,e2,e3,e4,e5,e6,e7⟩:=Xb.cells hr;have HB:=Hh b2;dsimp only[xb0,bw0,Xb.obj,List.length_nil] at e0 e1 e2 e3 e4 e5 e6 e7 HB;clear b1 b2 hr;go_enter Tryz.func105,Tryz.ntmps105;go_wp2_with fail;refine bodyPost_ret (v:=.tuple #[xb0.val,.bool false]) (by simp[results,Tryz.results105,go_sem,e0,e1,e2,e3,e4,e5,e6,e7,xb0,bw0]) rfl ?_;exact⟨xb0,0,0,0,0,false,rfl,⟨zhp _,zhp _,zhp _,zhp _⟩,⟨by simp[xb0,bw0],by simp[xb0,bw0],by simp[xb0,bw0],by simp[xb0,bw0]⟩,HB.out,.inl ⟨rfl,rfl,rfl,rfl,rfl,rfl⟩⟩
theorem ztL (n c:Nat)(A:Option Addr)(l:List Nd)(w:World)(h:Ns w A c l)(hn:l.length=n)(h0:0<n)(hn9:n≤900000)(hg:zas l) :
  Calls Tryz.prog 105 #[.agg #[.slice A n c]] w (zov l n w):=by
 have hcap:=h.cap;rw[hn] at hcap;have b1:=(Below.refl w.heap.size w).alloc (Nat.le_refl _) (.cells #[.slice A n c] 27);have b2:=b1.alloc (by simp) xb0.obj;have hq:=heap_alloc_new w (.cells #[.slice A n c] 27);have hr:=heap_alloc_new (w.alloc (.cells #[.slice A n c] 27)) xb0.obj;rw[World.size_alloc] at hr;have hq2:=(((Below.refl (w.heap.size+1) (w.alloc (.cells #[.slice A n c] 27))).alloc (by simp) xb0.obj).block w.heap.size (by omega)).trans hq;obtain⟨W7,hW7⟩:∃W:World,W=((w.alloc (.cells #[.slice A n c] 27)).alloc xb0.obj):=⟨_,rfl⟩;rw[←hW7] at b2 hq2 hr;have hI:∀u12 u14:Value,OfI w A c n l 0 false false undef undef u12 u14 W7.drew:=fun u12 u14=>⟨zac b2 1,hq2,hr,fun e=>(by cases e),fun e=>(by cases e),fun e=>(by cases e),fun e=>absurd e (by omega),fun e=>absurd e (by omega)⟩;have HIN:=Hh hI;have HW7:=Hh hW7;have HN:=Hh h;have HNL:=Hh hn;have HG:=Hh hg;have t1:((n:Int)==0)=false:=beq_eq_false_iff_ne.2 (by omega);clear h hn hg b1 b2 hq hr hq2 hW7 hI;dsimp only[xb0,bw0,Xb.obj,List.length_nil] at HW7;go_enter Tryz.func105,Tryz.ntmps105;go_wp2_with fail;rw[←HW7.out];go_cut [4,5] from 11 to 14 (fun s4 s5 wx=>BoC w l n s4 s5 wx)
 case first =>
  have hI0:=HIN.out;refine zcc ?_;refine wp_region_held (S:=fun w'=>w'.cell? ⟨w.heap.size,0,none⟩=some (.slice A n c)) (by kernel_rfl) ?_;have hs0:=zaa (HIN.out undef undef).x;have hIN:=HIN.out undef undef;obtain⟨W8,hW8⟩:∃W:World,W=W7.drew:=⟨_,rfl⟩;rw[←hW8] at hs0 hIN;change wpAnyH _ _ _ _ _ _ _ _ W7.drew;rw[←hW8];clear hW8 hI0;refine wpAnyH_take (i:=0) (v:=.agg #[.slice A n c]) rfl (by kernel_rfl) (by kernel_rfl) (by kernel_rfl) (fun _ _ _ h=>h) (Or.inl ⟨by rfl,?_⟩) hs0 ?_
  ·intro w' s1_;go_simp
  simp only[Act.put,List.setIfInBounds_toArray,List.set_cons_zero,List.set_cons_succ];refine wpAnyH_take (i:=2) (v:=.agg #[.slice A n c]) rfl (by kernel_rfl) (by kernel_rfl) (by kernel_rfl) (fun _ _ _ h=>h) (Or.inl ⟨by rfl,?_⟩) hs0 ?_
  ·intro w' s1_;go_simp
  simp only[Act.put,List.setIfInBounds_toArray,List.set_cons_zero,List.set_cons_succ];refine zhS (T:=Nat × Bool × Bool) (fun x=>(2-x.1)+(if x.2.1 then 0 else 1)+(if x.2.2 then 0 else 1)) (fun x=>#[true,decide (1≤x.1),true,decide (2≤x.1),x.2.1,x.2.2,false,false]) (fun x=>(2-x.1)+(if x.2.1 then 0 else 1)+(if x.2.2 then 0 else 1)+2) (fun x a W=>x.1≤2∧∃v4 v5 t12 t14,a={ tmps:=#[.agg #[.slice A n c],.pointer (some ⟨w.heap.size,0,none⟩),.pointer (some ⟨w.heap.size+1,0,none⟩),.bool false,v4,v5,.pointer (some ⟨w.heap.size,0,none⟩),.slice A n c,.int .i64 (n:Int),.bool false,undef,.agg #[.slice A n c],t12,.agg #[.slice A n c],t14,undef,undef,undef,undef,undef,undef,undef,undef,undef],defers:=[] }∧OfI w A c n l x.1 x.2.1 x.2.2 v4 v5 t12 t14 W) ?_ (0,false,false) _ _ (by kernel_rfl) (by kernel_rfl) _ _ ⟨by decide,undef,undef,undef,undef,rfl,hIN⟩;rintro⟨j,p,q⟩ IH a W ⟨hj,v4,v5,t12,t14,rfl,hI⟩;clear hs0 hIN;dsimp only at hj hI ⊢;obtain rfl|rfl|rfl:j=0∨j=1∨j=2:=by omega
  ·cases p
   ·cases q
    ·refine wpAnyH_ready (rs:=[1,4,5]) (by kernel_rfl) (by simp) (AllReadyH.cons rfl (fun K hK=>?_) (AllReadyH.cons rfl (fun K hK=>?_) (AllReadyH.cons rfl (fun K hK=>?_) (AllReadyH.nil))))
     ·go_simp;refine(zgk n c A l _ (HN.out.below hI.b) HNL.out h0 hn9 HG.out).mono ?_;rintro e w2 hr;have hr2:=hr;obtain⟨u,v,X,Y,rfl,-⟩:=hr2;have hN:=hI.call1 hr;dsimp only;refine hK.out _ _ (zaa hN.x) (fun _=>?_);exact IH (1,false,false) _ _ (by decide) (by kernel_rfl) (by kernel_rfl) _ _ ⟨by decide,_,_,_,_,rfl,hN⟩
     ·go_simp;refine hK.out _ _ (zaa hI.allocP.x) (fun _=>?_);exact IH (0,true,false) _ _ (by decide) (by kernel_rfl) (by kernel_rfl) _ _ ⟨by decide,_,_,_,_,rfl,hI.allocP⟩
     ·go_simp;refine hK.out _ _ (zaa hI.allocQ.x) (fun _=>?_);exact IH (0,false,true) _ _ (by decide) (by kernel_rfl) (by kernel_rfl) _ _ ⟨by decide,_,_,_,_,rfl,hI.allocQ⟩
    ·refine Rd2 1 4 (fun K hK=>?_) fun K hK=>?_
     ·go_simp;refine(zgk n c A l _ (HN.out.below hI.b) HNL.out h0 hn9 HG.out).mono ?_;rintro e w2 hr;have hr2:=hr;obtain⟨u,v,X,Y,rfl,-⟩:=hr2;have hN:=hI.call1 hr;dsimp only;refine hK.out _ _ (zaa hN.x) (fun _=>?_);exact IH (1,false,true) _ _ (by decide) (by kernel_rfl) (by kernel_rfl) _ _ ⟨by decide,_,_,_,_,rfl,hN⟩
     ·go_simp;refine hK.out _ _ (zaa hI.allocP.x) (fun _=>?_);exact IH (0,true,true) _ _ (by decide) (by kernel_rfl) (by kernel_rfl) _ _ ⟨by decide,_,_,_,_,rfl,hI.allocP⟩
   ·cases q
    ·refine Rd2 1 5 (fun K hK=>?_) fun K hK=>?_
     ·go_simp;refine(zgk n c A l _ (HN.out.below hI.b) HNL.out h0 hn9 HG.out).mono ?_;rintro e w2 hr;have hr2:=hr;obtain⟨u,v,X,Y,rfl,-⟩:=hr2;have hN:=hI.call1 hr;dsimp only;refine hK.out _ _ (zaa hN.x) (fun _=>?_);exact IH (1,true,false) _ _ (by decide) (by kernel_rfl) (by kernel_rfl) _ _ ⟨by decide,_,_,_,_,rfl,hN⟩
     ·go_simp;refine hK.out _ _ (zaa hI.allocQ.x) (fun _=>?_);exact IH (0,true,true) _ _ (by decide) (by kernel_rfl) (by kernel_rfl) _ _ ⟨by decide,_,_,_,_,rfl,hI.allocQ⟩
    ·refine Rd1 1 fun K hK=>?_
     ·go_simp;refine(zgk n c A l _ (HN.out.below hI.b) HNL.out h0 hn9 HG.out).mono ?_;rintro e w2 hr;have hr2:=hr;obtain⟨u,v,X,Y,rfl,-⟩:=hr2;have hN:=hI.call1 hr;dsimp only;refine hK.out _ _ (zaa hN.x) (fun _=>?_);exact IH (1,true,true) _ _ (by decide) (by kernel_rfl) (by kernel_rfl) _ _ ⟨by decide,_,_,_,_,rfl,hN⟩
  ·cases p
   ·cases q
    ·refine wpAnyH_ready (rs:=[3,4,5]) (by kernel_rfl) (by simp) (AllReadyH.cons rfl (fun K hK=>?_) (AllReadyH.cons rfl (fun K hK=>?_) (AllReadyH.cons rfl (fun K hK=>?_) (AllReadyH.nil))))
     ·go_simp;refine(zgl n c A l _ (HN.out.below hI.b) HNL.out h0 hn9 HG.out).mono ?_;rintro e w2 hr;have hr2:=hr;obtain⟨u,v,X,Y,rfl,-⟩:=hr2;have hN:=hI.call2 hr;dsimp only;refine hK.out _ _ (zaa hN.x) (fun _=>?_);exact IH (2,false,false) _ _ (by decide) (by kernel_rfl) (by kernel_rfl) _ _ ⟨by decide,_,_,_,_,rfl,hN⟩
     ·go_simp;refine hK.out _ _ (zaa hI.allocP.x) (fun _=>?_);exact IH (1,true,false) _ _ (by decide) (by kernel_rfl) (by kernel_rfl) _ _ ⟨by decide,_,_,_,_,rfl,hI.allocP⟩
     ·go_simp;refine hK.out _ _ (zaa hI.allocQ.x) (fun _=>?_);exact IH (1,false,true) _ _ (by decide) (by kernel_rfl) (by kernel_rfl) _ _ ⟨by decide,_,_,_,_,rfl,hI.allocQ⟩
    ·refine Rd2 3 4 (fun K hK=>?_) fun K hK=>?_
     ·go_simp;refine(zgl n c A l _ (HN.out.below hI.b) HNL.out h0 hn9 HG.out).mono ?_;rintro e w2 hr;have hr2:=hr;obtain⟨u,v,X,Y,rfl,-⟩:=hr2;have hN:=hI.call2 hr;dsimp only;refine hK.out _ _ (zaa hN.x) (fun _=>?_);exact IH (2,false,true) _ _ (by decide) (by kernel_rfl) (by kernel_rfl) _ _ ⟨by decide,_,_,_,_,rfl,hN⟩
     ·go_simp;refine hK.out _ _ (zaa hI.allocP.x) (fun _=>?_);exact IH (1,true,true) _ _ (by decide) (by kernel_rfl) (by kernel_rfl) _ _ ⟨by decide,_,_,_,_,rfl,hI.allocP⟩
   ·cases q
    ·refine Rd2 3 5 (fun K hK=>?_) fun K hK=>?_
     ·go_simp;refine(zgl n c A l _ (HN.out.below hI.b) HNL.out h0 hn9 HG.out).mono ?_;rintro e w2 hr;have hr2:=hr;obtain⟨u,v,X,Y,rfl,-⟩:=hr2;have hN:=hI.call2 hr;dsimp only;refine hK.out _ _ (zaa hN.x) (fun _=>?_);exact IH (2,true,false) _ _ (by decide) (by kernel_rfl) (by kernel_rfl) _ _ ⟨by decide,_,_,_,_,rfl,hN⟩
     ·go_simp;refine hK.out _ _ (zaa hI.allocQ.x) (fun _=>?_);exact IH (1,true,true) _ _ (by decide) (by kernel_rfl) (by kernel_rfl) _ _ ⟨by decide,_,_,_,_,rfl,hI.allocQ⟩
    ·refine Rd1 3 fun K hK=>?_
     ·go_simp;refine(zgl n c A l _ (HN.out.below hI.b) HNL.out h0 hn9 HG.out).mono ?_;rintro e w2 hr;have hr2:=hr;obtain⟨u,v,X,Y,rfl,-⟩:=hr2;have hN:=hI.call2 hr;dsimp only;refine hK.out _ _ (zaa hN.x) (fun _=>?_);exact IH (2,true,true) _ _ (by decide) (by kernel_rfl) (by kernel_rfl) _ _ ⟨by decide,_,_,_,_,rfl,hN⟩
  ·cases p
   ·cases q
    ·refine Rd2 4 5 (fun K hK=>?_) fun K hK=>?_
     ·go_simp;refine hK.out _ _ (zaa hI.allocP.x) (fun _=>?_);exact IH (2,true,false) _ _ (by decide) (by kernel_rfl) (by kernel_rfl) _ _ ⟨by decide,_,_,_,_,rfl,hI.allocP⟩
     ·go_simp;refine hK.out _ _ (zaa hI.allocQ.x) (fun _=>?_);exact IH (2,false,true) _ _ (by decide) (by kernel_rfl) (by kernel_rfl) _ _ ⟨by decide,_,_,_,_,rfl,hI.allocQ⟩
    ·refine Rd1 4 fun K hK=>?_
     ·go_simp;refine hK.out _ _ (zaa hI.allocP.x) (fun _=>?_);exact IH (2,true,true) _ _ (by decide) (by kernel_rfl) (by kernel_rfl) _ _ ⟨by decide,_,_,_,_,rfl,hI.allocP⟩
   ·cases q
    ·refine Rd1 5 fun K hK=>?_
     ·go_simp;refine hK.out _ _ (zaa hI.allocQ.x) (fun _=>?_);exact IH (2,true,true) _ _ (by decide) (by kernel_rfl) (by kernel_rfl) _ _ ⟨by decide,_,_,_,_,rfl,hI.allocQ⟩
    ·have hS:=zaa hI.x;obtain⟨g4,g5,u,v,x,y,rfl,rfl,rfl,rfl,m1,m2,m3,m4,z4,z5,hC⟩:=hI.last;have HC:=Hh hC;have HS:=Hh hS;have Z5:=Hh z5;obtain⟨d0,d1,d2,d3,f0,f1,f2,f3⟩:=zao z4;clear hI hC hS IH z4 z5;refine Rd1 6 fun K hK=>?_;go_simp;have hS2:=(World.cell?_of_block (w:=W) (a:=⟨w.heap.size,0,none⟩) (zdm m3 u v)).trans HS.out;refine hK.out _ _ hS2 (fun _=>?_);clear hK K d0 d1 d2 d3 f0 f1 f2 f3;obtain⟨d0,d1,d2,d3,f0,f1,f2,f3⟩:=zao Z5.out;change wpAnyH _ _ _ _ _ _ _ _ (put2 W g4 u v);generalize put2 W g4 u v=W9 at *;refine Rd1 7 fun K hK=>?_;go_simp;have hS3:=(World.cell?_of_block (w:=W9) (a:=⟨w.heap.size,0,none⟩) (zdm m4 x y)).trans hS2;refine hK.out _ _ hS3 (fun _=>?_);clear hK K d0 d1 d2 d3 f0 f1 f2 f3 hS2 hS3;refine wpAnyH_done (by kernel_rfl) ?_ _;unfold zcO;go_wp2_with fail;go_meet;exact HC.out
 case rest =>
  obtain⟨g4,g5,u,v,x,y,X,Y,Z,T,rfl,rfl,k4,k5,ru,rv,rx,ry,se,sf,hb,hr,hg4,hg5⟩:=hcut;have hd:Below wc.heap.size wc (wc.drewN 1):=zac (Below.refl _ _) 1;have RU:=Hh (ru.next hd);have RV:=Hh (rv.next hd);have RX:=Hh (rx.next hd);have RY:=Hh (ry.next hd);have SE:=Hh se;have SF:=Hh sf;have K4:=Hh k4;have K5:=Hh k5;have HB:=Hh hb;have HR:=Hh hr;have m9:=zaw (show 1328≤1329 by omega);have lw:=Hh (show(-p2 1329≤X∧X≤p2 1329)∧-p2 1329≤Y∧Y≤p2 1329 by have:=se.low HG.out HNL.out h0;omega);have lh:=Hh (show(-p2 1329≤Z∧Z≤p2 1329)∧-p2 1329≤T∧T≤p2 1329 by have:=sf.low HG.out HNL.out h0;omega);clear m9;obtain⟨d0,d1,d2,d3,-⟩:=zao k4;obtain⟨e0,e1,e2,e3,-⟩:=zao k5;have q0:True:=trivial;clear ru rv rx ry se sf hb hr k4 k5 hd;go_wp2_with fail;refine wp_region_noPanic ?_;refine wp_region_held (S:=fun w'=>w'.cell? ⟨g4,0,none⟩=some (.bool u.s)∧w'.cell? ⟨g4,1,none⟩=some (.slice u.a u.xs.length u.c)∧w'.cell? ⟨g4,2,none⟩=some (.bool v.s)∧w'.cell? ⟨g4,3,none⟩=some (.slice v.a v.xs.length v.c)∧w'.cell? ⟨g5,0,none⟩=some (.bool x.s)∧w'.cell? ⟨g5,1,none⟩=some (.slice x.a x.xs.length x.c)∧w'.cell? ⟨g5,2,none⟩=some (.bool y.s)∧w'.cell? ⟨g5,3,none⟩=some (.slice y.a y.xs.length y.c)) (by kernel_rfl) ?_;clear d0 d1 d2 d3 e0 e1 e2 e3;obtain⟨W0,hW0⟩:∃W0:World,W0=wc.drewN 1:=⟨_,rfl⟩;have HD0:=Hh (show Below wc.heap.size wc W0 by rw[hW0];exact zac (Below.refl _ _) 1);change wpAnyH _ _ _ _ _ _ _ _ (wc.drewN 1);change W0=wc.drewN 1 at hW0;rw[←hW0] at RU RV RX RY ⊢;clear hW0;obtain⟨d0,d1,d2,d3,-⟩:=zao ((HD0.out.block _ (zab K4.out)).trans K4.out);obtain⟨e0,e1,e2,e3,-⟩:=zao ((HD0.out.block _ (zab K5.out)).trans K5.out);have hS0:=(And.intro d0 (And.intro d1 (And.intro d2 (And.intro d3 (And.intro e0 (And.intro e1 (And.intro e2 e3)))))));clear d0 d1 d2 d3 e0 e1 e2 e3;refine Tk1 (v:=?_) 0 hS0 ?_ ?_;rotate_left
  ·rintro w' ⟨_,_,_,_,_,_,_,_⟩;go_simp;first|done|with_reducible rfl|rfl
  simp only[Act.put,LA];refine Tk1 (v:=?_) 1 hS0 ?_ ?_;rotate_left
  ·rintro w' ⟨_,_,_,_,_,_,_,_⟩;go_simp;first|done|with_reducible rfl|rfl
  simp only[Act.put,LA];refine Tk1 (v:=?_) 2 hS0 ?_ ?_;rotate_left
  ·rintro w' ⟨_,_,_,_,_,_,_,_⟩;go_simp;first|done|with_reducible rfl|rfl
  simp only[Act.put,LA];refine Tk1 (v:=?_) 3 hS0 ?_ ?_;rotate_left
  ·rintro w' ⟨_,_,_,_,_,_,_,_⟩;go_simp;first|done|with_reducible rfl|rfl
  simp only[Act.put,LA];refine Tk1 (v:=?_) 4 hS0 ?_ ?_;rotate_left
  ·rintro w' ⟨_,_,_,_,_,_,_,_⟩;go_simp;first|done|with_reducible rfl|rfl
  simp only[Act.put,LA];refine Tk1 (v:=?_) 6 hS0 ?_ ?_;rotate_left
  ·rintro w' ⟨_,_,_,_,_,_,_,_⟩;go_simp;first|done|with_reducible rfl|rfl
  simp only[Act.put,LA];refine Rd1 5 fun K hK=>?_;go_simp;refine(zqL u v X Y _ RU.out RV.out lw.out.1 lw.out.2).mono ?_;rintro e w1 hr1;obtain⟨s,rfl,rs,b1⟩:=zaj hr1;dsimp only;have RS:=Hh rs;have RX:=Hh (RX.out.next b1);have RY:=Hh (RY.out.next b1);have RU:=Hh (RU.out.next b1);have RV:=Hh (RV.out.next b1);have B1:=Hh (HD0.out.trans (b1.mono HD0.out.size));obtain⟨d0,d1,d2,d3,-⟩:=zao ((B1.out.block _ (zab K4.out)).trans K4.out);obtain⟨e0,e1,e2,e3,-⟩:=zao ((B1.out.block _ (zab K5.out)).trans K5.out);have hS1:=(And.intro d0 (And.intro d1 (And.intro d2 (And.intro d3 (And.intro e0 (And.intro e1 (And.intro e2 e3)))))));refine hK.out _ _ hS1 (fun _=>?_);clear hK K hr1 rs b1 d0 d1 d2 d3 e0 e1 e2 e3;refine Rd1 7 fun K hK=>?_;go_simp;refine(zqL x y Z T _ RX.out RY.out lh.out.1 lh.out.2).mono ?_;rintro e w2 hr2;obtain⟨t,rfl,rt,b2⟩:=zaj hr2;dsimp only;have RT:=Hh rt;have RS:=Hh (RS.out.next b2);have RX:=Hh (RX.out.next b2);have RU:=Hh (RU.out.next b2);have B2:=Hh (B1.out.trans (b2.mono B1.out.size));obtain⟨d0,d1,d2,d3,-⟩:=zao ((B2.out.block _ (zab K4.out)).trans K4.out);obtain⟨e0,e1,e2,e3,-⟩:=zao ((B2.out.block _ (zab K5.out)).trans K5.out);have hS2:=(And.intro d0 (And.intro d1 (And.intro d2 (And.intro d3 (And.intro e0 (And.intro e1 (And.intro e2 e3)))))));refine hK.out _ _ hS2 (fun _=>?_);clear hK K hr2 rt b2 d0 d1 d2 d3 e0 e1 e2 e3;refine Tk1 (v:=?_) 8 hS2 ?_ ?_;rotate_left
  ·rintro w' ⟨_,_,_,_,_,_,_,_⟩;go_simp;first|done|with_reducible rfl|rfl
  simp only[Act.put,LA];have R9:=Hh ((B2.out.block _ (zab HR.out)).trans HR.out);obtain⟨z0,z1,z2,z3,z4,z5,z6,z7⟩:=Xb.cells R9.out;obtain⟨y0,y1,y2,y3,y4,y5,y6,y7⟩:=Xb.cellsF R9.out;refine Rd1 9 fun K hK=>?_;go_simp;have k4:=(zgm (W:=w2) (g:=w.heap.size+1) (show g4≠w.heap.size+1 by omega) ⟨u,x,s,t⟩).trans ((B2.out.block _ (zab K4.out)).trans K4.out);have k5:=(zgm (W:=w2) (g:=w.heap.size+1) (show g5≠w.heap.size+1 by omega) ⟨u,x,s,t⟩).trans ((B2.out.block _ (zab K5.out)).trans K5.out);obtain⟨d0,d1,d2,d3,-⟩:=zao k4;obtain⟨e0,e1,e2,e3,-⟩:=zao k5;have hS3:=(And.intro d0 (And.intro d1 (And.intro d2 (And.intro d3 (And.intro e0 (And.intro e1 (And.intro e2 e3)))))));refine hK.out _ _ hS3 (fun _=>?_);clear hK K d0 d1 d2 d3 e0 e1 e2 e3 z0 z1 z2 z3 z4 z5 z6 z7 y0 y1 y2 y3 y4 y5 y6 y7 k4 k5;change wpAnyH _ _ _ _ _ _ _ _ (putX w2 (w.heap.size+1) ⟨u,x,s,t⟩);have RF:=Hh (zqX R9.out ⟨u,x,s,t⟩);have HX:=Hh (show Xb.R ⟨u,x,s,t⟩ (putX w2 (w.heap.size+1) ⟨u,x,s,t⟩) X Z (Y-X+1) (T-Z+1) from⟨RU.out.putX R9.out _,RX.out.putX R9.out _,RS.out.putX R9.out _,RT.out.putX R9.out _⟩);have BF:=Hh (ziv (HB.out.trans (B2.out.mono HB.out.size)) (g:=w.heap.size+1) (Nat.le_succ _) ⟨u,x,s,t⟩);generalize putX w2 (w.heap.size+1) ⟨u,x,s,t⟩=W9 at *;refine Tk1 (v:=?_) 10 hS3 ?_ ?_;rotate_left
  ·rintro w' ⟨_,_,_,_,_,_,_,_⟩;go_simp;first|done|with_reducible rfl|rfl
  simp only[Act.put,LA];refine wpAnyH_done (by kernel_rfl) ?_ _;refine NoPanic.normal ?_;go_wp2_with fail;obtain⟨z0,z1,z2,z3,z4,z5,z6,z7⟩:=Xb.cells RF.out;refine bodyPost_ret (v:=.tuple #[(⟨u,x,s,t⟩:Xb).val,.bool true]) (by simp[results,Tryz.results105,go_sem,z0,z1,z2,z3,z4,z5,z6,z7]) rfl ?_;have sh:∀{b:Bw} {V:Int} {W:World},b.R W V→-p2 1330≤V→V≤p2 1330→b.xs.length≤50000:=fun r h1 h2=>Nat.le_trans (zaX r h1 h2) (by omega);have hp:p2 1330=p2 1329+p2 1329:=zap 1329;have hp1:=zaz 1329;have bt:=ztJ SE.out SF.out;have l1:=SE.out.low HG.out HNL.out h0;have l2:=SF.out.low HG.out HNL.out h0;have hp2:p2 1329=p2 1328+p2 1328:=zap 1328;have hp3:=zaz 1328;refine⟨⟨u,x,s,t⟩,X,Z,Y-X+1,T-Z+1,true,rfl,HX.out,⟨sh HX.out.x (by omega) (by omega),sh HX.out.y (by omega) (by omega),sh HX.out.w (by omega) (by omega),sh HX.out.h (by omega) (by omega)⟩,BF.out,.inr ⟨h0,rfl,bt⟩⟩
theorem zqZ (n c:Nat)(A:Option Addr)(l:List Nd)(w:World)(h:Ns w A c l)(hn:l.length=n)(hn9:n≤900000)(hg:zas l) :
  Calls Tryz.prog 105 #[.agg #[.slice A n c]] w (zov l n w):=by
 by_cases h0:0<n
 ·exact ztL n c A l w h hn h0 hn9 hg
 ·have e0:n=0:=by omega
  subst e0;have e1:l=[]:=List.length_eq_zero_iff.1 hn;subst e1;exact ztK A c w
def BxV (l:List Nd)(n:Nat)(ok:Bool)(X Y V H:Int):Prop:=(n=0∧ok=false∧X=0∧Y=0∧V=0∧H=0)∨(0<n∧ok=true∧BoxT (den l n) (at_ l (n-1)).lv.toNat X Y V H)
theorem BxV.one {l:List Nd}{n:Nat}{ok ok':Bool}{X Y V H X' Y' V' H':Int}(h:BxV l n ok X Y V H)(k:BxV l n ok' X' Y' V' H'):ok=ok'∧X=X'∧Y=Y'∧V=V'∧H=H':=by
 rcases h with⟨h0,rfl,h1,h2,h3,h4⟩|⟨h0,rfl,h1⟩
 ·rcases k with⟨k0,rfl,k1,k2,k3,k4⟩|⟨k0,rfl,k1⟩
  ·exact⟨rfl,by omega,by omega,by omega,by omega⟩
  ·omega
 ·rcases k with⟨k0,rfl,k1,k2,k3,k4⟩|⟨k0,rfl,k1⟩
  ·omega
  ·exact⟨rfl,h1.one k1⟩
def zxM (l:List Nd)(n:Nat)(most:Int)(w:World)(e:Ending)(w':World):Prop :=
 ∃(X Y V H:Int) (ok:Bool),e=.returned (.bool (decide (V≤most)&&decide (H≤most)))∧BxV l n ok X Y V H∧Below w.heap.size w w'
theorem zjx (a b:Int):decide (ordI a b≤0)=decide (a≤b):=by
 refine decide_eq_decide.2 ?_;unfold ordI;split
 ·constructor <;> intro <;> omega
 ·split
  ·constructor <;> intro <;> omega
  ·constructor <;> intro <;> omega
theorem zra (n c:Nat)(A:Option Addr)(l:List Nd)(most:Int)(w:World)(h:Ns w A c l)(hn:l.length=n)(hn9:n≤900000)(hg:zas l)(hm : -9223372036854775808≤most∧most≤9223372036854775807) :
  Calls Tryz.prog 104 #[.agg #[.slice A n c],.int .i64 most] w (zxM l n most w):=by
 have hcap:=h.cap;rw[hn] at hcap;have hB:=(Below.refl w.heap.size w).alloc (Nat.le_refl _) (.cells #[.slice A n c] 27);have HB:=Hh hB;have HN:=Hh (h.below hB);have HNL:=Hh hn;have HG:=Hh hg;have q0:True:=trivial;clear h hn hg hB;go_enter Tryz.func104,Tryz.ntmps104;go_upto_region 3 with(first
  | (have _t:=q0;go_at_call 105;clear _t;go_loud (refine(zqZ n c A l _ HN.out HNL.out hn9 HG.out).mono ?_;rintro e w1 ⟨u,X,Y,V,H,ok,rfl,ru,su,b1,bv⟩;have RU:=Hh ru;have SU:=Hh su;have BV:=Hh (show BxV l n ok X Y V H from bv);have B1:=Hh (HB.out.trans (b1.mono HB.out.size));clear ru su b1 bv;have q1:=q0;clear q0))
  | (have _t:=q1;go_at_call 137;clear _t;go_loud (refine(zgK most _ hm.1 hm.2).mono ?_;rintro e w2 h2;obtain⟨o,rfl,ro,b2⟩:=zaj h2;have hb3:=(Below.refl w1.heap.size w1).alloc (Nat.le_refl _) u.obj;have hb4:=hb3.trans (b2.mono hb3.size);have hb5:=hb4.alloc hb4.size o.obj;have KX:=Hh (((b2.alloc b2.size o.obj).block w1.heap.size (by simp)).trans (heap_alloc_new w1 u.obj));have RU:=Hh (RU.out.next hb5);have RO:=Hh ro.box;have B2:=Hh (B1.out.trans (hb5.mono B1.out.size));clear h2 ro b2 hb3 hb4 hb5;have q2:=q1;clear q1)))
 obtain⟨c0,c1,c2,c3,c4,c5,c6,c7⟩:=Xb.cells KX.out;have o0:=RO.out.c0;have o1:=RO.out.c1;have lo:o.xs.length≤50:=zaX RO.out.r (by have:=zaw (show 64≤1330 by omega);have:p2 64=18446744073709551616:=rfl;omega) (by have:=zaw (show 64≤1330 by omega);have:p2 64=18446744073709551616:=rfl;omega);have lw:=SU.out.w;have lh:=SU.out.h;generalize hW:w2.alloc o.obj=W at *;obtain⟨g5,hg5⟩:∃g,g=w1.heap.size:=⟨_,rfl⟩;obtain⟨g7,hg7⟩:∃g,g=w2.heap.size:=⟨_,rfl⟩;rw[←hg5] at KX c0 c1 c2 c3 c4 c5 c6 c7 ⊢;rw[←hg7] at RO o0 o1 ⊢;clear hg5 hg7 hW;obtain⟨r1,hr1⟩:∃r,r=ordI V most:=⟨_,rfl⟩;obtain⟨r2,hr2⟩:∃r,r=ordI H most:=⟨_,rfl⟩;have e1:=zjx V most;have e2:=zjx H most;rw[←hr1] at e1;rw[←hr2] at e2;have HR1:=Hh hr1;have HR2:=Hh hr2;have HE1:=Hh e1;have HE2:=Hh e2;clear hr1 hr2 e1 e2 c0 c1 c2 c3;have CMP1:∀W1,Below W.heap.size W W1→Calls Tryz.prog 148 #[.agg #[.bool u.w.s,.slice u.w.a u.w.xs.length u.w.c],.agg #[.bool o.s,.slice o.a o.xs.length o.c]] W1 fun e w'=>e=.returned (.int .i64 r1)∧Below W1.heap.size W1 w':=fun W1 b=>by
  have h9:=zeK u.w.s o.s u.w.a o.a u.w.c o.c u.w.xs o.xs W1 (RU.out.w.us.below b) (RO.out.r.us.below b) (by omega) (by omega) RU.out.w.cn RO.out.r.cn
  rwa [RU.out.w.v,RO.out.r.v,←HR1.out] at h9
 have CMP2:∀W1,Below W.heap.size W W1→Calls Tryz.prog 148 #[.agg #[.bool u.h.s,.slice u.h.a u.h.xs.length u.h.c],.agg #[.bool o.s,.slice o.a o.xs.length o.c]] W1 fun e w'=>e=.returned (.int .i64 r2)∧Below W1.heap.size W1 w':=fun W1 b=>by
  have h9:=zeK u.h.s o.s u.h.a o.a u.h.c o.c u.h.xs o.xs W1 (RU.out.h.us.below b) (RO.out.r.us.below b) (by omega) (by omega) RU.out.h.cn RO.out.r.cn
  rwa [RU.out.h.v,RO.out.r.v,←HR2.out] at h9
 have HC1:=Hh CMP1;have HC2:=Hh CMP2;clear CMP1 CMP2;by_cases hV:V≤most
 ·have t1:decide (r1≤0)=true:=by rw[HE1.out];exact decide_eq_true hV
  have HV:=Hh hV;clear hV;go_wp2_with (first
   | (have _t:=q2;go_at_call 148;clear _t;go_loud (refine(HC1.out _ (Below.refl _ _)).mono ?_;rintro e w3 ⟨rfl,b3⟩;have B3:=Hh b3;have c6:=(b3.cell (p:=⟨g5,6,none⟩) (zab KX.out)).trans c6;have c7:=(b3.cell (p:=⟨g5,7,none⟩) (zab KX.out)).trans c7;have o0:=(b3.cell (p:=⟨g7,0,none⟩) RO.out.lt).trans o0;have o1:=(b3.cell (p:=⟨g7,1,none⟩) RO.out.lt).trans o1;clear b3;have q3:=q2;clear q2))
   | (have _t:=q3;go_at_call 148;clear _t;go_loud (refine(HC2.out _ B3.out).mono ?_;rintro e w4 ⟨rfl,b4⟩;have B4:=Hh (B3.out.trans (b4.mono B3.out.size));clear b4;have q4:=q3;clear q3)))
  go_ret;exact⟨X,Y,V,H,ok,by rw[decide_eq_true (show V≤most by have:=HV.out;omega),Bool.true_and];first|rfl|(rw[←HE2.out];rfl),BV.out,B2.out.trans (B4.out.mono B2.out.size)⟩
 ·have t1:decide (r1≤0)=false:=by rw[HE1.out];exact decide_eq_false hV
  have HV:=Hh hV;clear hV;go_wp2_with (first
   | (have _t:=q2;go_at_call 148;clear _t;go_loud (refine(HC1.out _ (Below.refl _ _)).mono ?_;rintro e w3 ⟨rfl,b3⟩;have B3:=Hh b3;clear b3;have q3:=q2;clear q2)))
  go_ret;exact⟨X,Y,V,H,ok,by rw[decide_eq_false (show ¬ V≤most by have:=HV.out;omega),Bool.false_and];rfl,BV.out,B2.out.trans (B3.out.mono B2.out.size)⟩
def zow (ax e j:Nat):Nat:=if ax=0 then e+2*j else 2*e+j
def kk (ax e j:Nat):Nat:=if j<2 then zow ax e j else zow ax (1-e) (j-2)
theorem zxN {ax e j:Nat}(he:e≤1)(hj:j<4):kk ax e j<4:=by
 unfold kk zow;split <;> split <;> omega
theorem zxO {ax e j:Nat}(he:e≤1)(hj:j<4):bitK ax (kk ax e j)=if j<2 then e else 1-e:=by
 unfold kk zow bitK;split <;> split <;> omega
theorem zvq {ax e:Nat}(he:e≤1){k:Nat}(hk:k<4):∃j,j<4∧kk ax e j=k:=by
 by_cases ha:ax=0
 ·refine⟨if k%2=e then k / 2 else k / 2+2,?_,?_⟩
  ·split <;> omega
  ·unfold kk zow;rw[if_pos ha,if_pos ha];split <;> split <;> omega
 ·refine⟨if k / 2=e then k%2 else k%2+2,?_,?_⟩
  ·split <;> omega
  ·unfold kk zow;rw[if_neg ha,if_neg ha];split <;> split <;> omega
theorem zxP {ax e j m:Nat}(he:e≤1)(hj:j<4):pen ax e m (kk ax e j)=if j<2 then 0 else p2 m:=by
 unfold pen;rw[zxO he hj];split
 ·rw[if_pos rfl]
 ·rw[if_neg (by omega)]
structure EdJ (ax e:Nat)(x:Nd)(d:Nat→Int)(j:Nat)(fd:Bool)(m:Int):Prop where
 no:fd=false→∀t,t<j→x.kid (kk ax e t)=0
 le:fd=true→∀t,t<j→x.kid (kk ax e t)≠0→m≤d (kk ax e t)
 ex:fd=true→∃t,t<j∧x.kid (kk ax e t)≠0∧m=d (kk ax e t)
theorem EdJ.start (ax e:Nat)(x:Nd)(d:Nat→Int)(m:Int):EdJ ax e x d 0 false m:=⟨fun _ t ht=>by omega,fun h=>(by cases h),fun h=>(by cases h)⟩
theorem EdJ.skip {ax e:Nat}{x:Nd}{d:Nat→Int}{j:Nat}{fd:Bool}{m:Int}(h:EdJ ax e x d j fd m)(h0:x.kid (kk ax e j)=0):EdJ ax e x d (j+1) fd m :=
 ⟨fun hf t ht=>by
  by_cases e:t=j
  ·rw[e];exact h0
  ·exact h.no hf t (by omega),fun hf t ht hk=>by
  by_cases e:t=j
  ·rw[e] at hk;exact absurd h0 hk
  ·exact h.le hf t (by omega) hk,fun hf=>by
  obtain⟨t,h1,h2⟩:=h.ex hf;exact⟨t,by omega,h2⟩⟩
theorem EdJ.first {ax e:Nat}{x:Nd}{d:Nat→Int}{j:Nat}{m:Int}(h:EdJ ax e x d j false m)(h0:x.kid (kk ax e j)≠0):EdJ ax e x d (j+1) true (d (kk ax e j)) :=
 ⟨fun hf=>(by cases hf),fun _ t ht hk=>by
  by_cases e:t=j
  ·rw[e];exact Int.le_refl _
  ·exact absurd (h.no rfl t (by omega)) hk,fun _=>⟨j,by omega,h0,rfl⟩⟩
theorem EdJ.less {ax e:Nat}{x:Nd}{d:Nat→Int}{j:Nat}{m:Int}(h:EdJ ax e x d j true m)(h0:x.kid (kk ax e j)≠0)(hl:d (kk ax e j)<m):EdJ ax e x d (j+1) true (d (kk ax e j)) :=
 ⟨fun hf=>(by cases hf),fun _ t ht hk=>by
  by_cases e:t=j
  ·rw[e];exact Int.le_refl _
  ·have:=h.le rfl t (by omega) hk;omega,fun _=>⟨j,by omega,h0,rfl⟩⟩
theorem EdJ.more {ax e:Nat}{x:Nd}{d:Nat→Int}{j:Nat}{m:Int}(h:EdJ ax e x d j true m)(hl:¬ d (kk ax e j)<m):EdJ ax e x d (j+1) true m :=
 ⟨fun hf=>(by cases hf),fun _ t ht hk=>by
  by_cases e:t=j
  ·rw[e];omega
  ·exact h.le rfl t (by omega) hk,fun _=>by
  obtain⟨t,h1,h2⟩:=h.ex rfl;exact⟨t,by omega,h2⟩⟩
def dF (l:List Nd)(ax e i m:Nat)(F:Nat→Int)(k:Nat):Int:=(if m=0 then 0 else F (((at_ l i).kid k).toNat-1))+pen ax e m k
theorem zwn {l:List Nd}(hg:zas l){i:Nat}(hi:i<l.length){m:Nat}(hm:(at_ l i).lv=(m:Int)+1):∃k,k<4∧(at_ l i).kid k≠0:=by
 have hw:=zbY hg.1 i hi;rw[hm] at hw;obtain⟨x,y,h⟩:=zbb _ (m+1) hw (hg.2 i hi).1;obtain⟨k,hk,h2⟩:=zhk hw h;exact⟨k,hk,(zis hg hi hk).2 (zbi h2)⟩
theorem EdJ.done {l:List Nd}(hg:zas l){ax e i m:Nat}(he:e≤1)(hi:i<l.length)(hm:(at_ l i).lv=(m:Int)+1){F:Nat→Int}(hF:∀j,j<i→IsE l ax e j (F j)){fd:Bool}{D:Int}(h:EdJ ax e (at_ l i) (dF l ax e i m F) 4 fd D) :
  fd=true∧IsE l ax e i D:=by
 obtain⟨k0,hk0,hne0⟩:=zwn hg hi hm;have hfd:fd=true:=by
  cases fd with
  | true=>rfl
  | false =>
   obtain⟨j,hj,e1⟩:=zvq (ax:=ax) he hk0;exact absurd (by rw[←e1];exact h.no rfl j hj) hne0
 refine⟨hfd,zqN hg hi he hm (fun k=>if m=0 then 0 else F (((at_ l i).kid k).toNat-1)) (fun k hk hne=>?_) (fun k hk hne=>?_) ?_⟩
 ·by_cases hm0:m=0
  ·exact .inl ⟨hm0,if_pos hm0⟩
  ·refine .inr ⟨hm0,?_⟩;show IsE l ax e _ (if m=0 then 0 else _);rw[if_neg hm0];rcases zbc (by omega) (zav (zan.1 hg.1 i hi) hk) with h1|⟨p,h1,h2,h3⟩
   ·exact absurd h1 hne
   ·have:=List.length_take_le i l;exact hF _ (by omega)
 ·obtain⟨j,hj,e1⟩:=zvq (ax:=ax) he hk;have:=h.le hfd j hj (by rw[e1];exact hne);rw[e1] at this;exact this
 ·obtain⟨t,ht,h1,h2⟩:=h.ex hfd;exact⟨_,zxN he ht,h1,h2⟩
theorem IsE.low {l:List Nd}(hg:zas l){ax e i m:Nat}(hi:i<l.length)(hm:(at_ l i).lv=(m:Int)){D:Int}(h:IsE l ax e i D):0≤D∧D<p2 m:=by
 have hw:=zbY hg.1 i hi;rw[hm] at hw;unfold IsE at h;rw[hm,Int.toNat_natCast] at h;exact h.in_ (fun t ht=>by have ht':t=den l (i+1):=ht;rw[ht'];exact hw)
structure EgW (w:World)(n:Nat)(l:List Nd)(ax e gr:Nat)(L:List Gv)(F:Nat→Int)(i:Nat)(fd:Bool)(m:Int)(W:World):Prop where
 b:Below w.heap.size w W
 nb:W.heap[w.heap.size]?=some (.cells #[.int .i64 (kk ax e 0:Nat),.int .i64 (kk ax e 1:Nat)] 132)
 fb:W.heap[w.heap.size+1]?=some (.cells #[.int .i64 (kk ax e 2:Nat),.int .i64 (kk ax e 3:Nat)] 132)
 row:OwnG W (w.heap.size+2) gr (n+1) L
 fine:∀j,j<i→GIn W (gat L (j+1)) (F j)∧IsE l ax e j (F j)
 now:fd=true→GIn W (gat L (i+1)) m
section
variable {w:World} {n:Nat} {l:List Nd} {ax e gr:Nat} {L:List Gv} {F:Nat→Int} {i:Nat} {fd:Bool} {m:Int} {W W1:World}
theorem EgW.next (h:EgW w n l ax e gr L F i fd m W)(k:Below W.heap.size W W1):EgW w n l ax e gr L F i fd m W1 :=
 ⟨h.b.trans (k.mono h.b.size),(k.block _ (Array.getElem?_eq_some_iff.1 h.nb).1).trans h.nb,(k.block _ (Array.getElem?_eq_some_iff.1 h.fb).1).trans h.fb,h.row.next k,fun j hj=>⟨(h.fine j hj).1.next k,(h.fine j hj).2⟩,fun e=>(h.now e).next k⟩
theorem EgW.put (h:EgW w n l ax e gr L F i fd m W)(hi:i<n){s:Bool}{B:Option Addr}{d:Nat}{xs:List Nat}{m2:Int}(hu:Us W B d xs)(hc:zaC s xs)(hv:ival s xs=m2) :
  EgW w n l ax e gr (L.set (i+1) ⟨s,B,d,xs⟩) F i true m2 ((W.setCell ⟨gr,(i+1)*2,none⟩ (.bool s)).setCell ⟨gr,(i+1)*2+1,none⟩ (.slice B xs.length d)):=by
 have hg:=zju W gr ((i+1)*2) ((i+1)*2+1) (.bool s) (.slice B xs.length d);obtain⟨r1,r2,r3,r4,r5⟩:=h.row.row;have hz:=h.b.size;have l1:=(Array.getElem?_eq_some_iff.1 h.nb).1;have l2:=(Array.getElem?_eq_some_iff.1 h.fb).1;refine⟨h.b.grown hg h.b.size (fun q e=>by cases e;omega),(hg.block _ l1 (fun e=>by have:=Option.some.inj e;omega)).trans h.nb,(hg.block _ l2 (fun e=>by have:=Option.some.inj e;omega)).trans h.fb,h.row.put (by omega) ⟨s,B,d,xs⟩,fun j hj=>?_,fun _=>?_⟩
 ·rw[zio (by omega)];exact⟨(h.fine j hj).1.over r5 hg,(h.fine j hj).2⟩
 ·rw[zfN (by rw[h.row.1];omega)];exact⟨zbt hu (fun q h1 h2=>hg.block q h1 (fun e=>h2 (by cases e;rfl))) hg.size (zbS hu r5),hc,hv⟩
theorem EgW.step (h:EgW w n l ax e gr L F i true m W)(hE:IsE l ax e i m):EgW w n l ax e gr L (fun t=>if t=i then m else F t) (i+1) false 0 W :=
 ⟨h.b,h.nb,h.fb,h.row,fun j hj=>by
  by_cases e:j=i
  ·subst e;simp only[if_pos];exact⟨h.now rfl,hE⟩
  ·simp only[if_neg e];exact h.fine j (by omega),fun e=>(by cases e)⟩
end
theorem zfA {W:World}{g:Nat}{a b:Value}{t:TypeId}(h:W.heap[g]?=some (.cells #[a,b] t)):∀k,k<2→W.cell? ⟨g,k,none⟩=some (if k=0 then a else b):=by
 intro k hk;rw[cell_of_row W g _ _ _ (0,0) h]
 match k,hk with
 | 0,_=>rfl
 | 1,_=>rfl
theorem Bw.B.over {u:Bw}{W W1:World}{g gr:Nat}{X:Int}(h:u.B W g X)(hne:g≠gr)(ho:∀o v,W.cell? ⟨gr,o,none⟩=some v→∀k,v≠.int .u32 k)(hk:W.grownBy W1 (some gr)):u.B W1 g X :=
 ⟨(hk.block g h.lt (fun e=>by have:=Option.some.inj e;omega)).trans h.box,zbt h.r.us (fun q h1 h2=>hk.block q h1 (fun e=>h2 (by cases e;rfl))) hk.size (zbS h.r.us ho),h.r.cn,h.r.v⟩
theorem zgn {W:World}{p:Addr}{v a b:Value}{g k j:Nat}(hne:p.block≠g)(h:W.cell? p=some v):((W.setCell ⟨g,k,none⟩ a).setCell ⟨g,j,none⟩ b).cell? p=some v :=
 (World.cell?_of_block ((Below.heap_setCell _ _ _ _ hne).trans (Below.heap_setCell _ _ _ _ hne))).trans h
def zxQ (l:List Nd)(ax e n:Nat)(w:World)(en:Ending)(w':World):Prop:=∃gr L F,en=.returned (.slice (some ⟨gr,0,none⟩) (n+1) (n+1))∧EgW w n l ax e gr L F n false 0 w'
theorem zox (ax e n c:Nat)(A:Option Addr)(l:List Nd)(w:World)(h:Ns w A c l)(hn:l.length=n)(hn9:n≤900000)(hg:zas l)(he:e≤1) :
  Calls Tryz.prog 79 #[.slice A n c,.agg #[.int .i64 (kk ax e 0:Nat),.int .i64 (kk ax e 1:Nat)],.agg #[.int .i64 (kk ax e 2:Nat),.int .i64 (kk ax e 3:Nat)]] w (zxQ l ax e n w):=by
 have hcap:=h.cap;rw[hn] at hcap;obtain⟨i0,hi,hz0,hz1,hz2⟩:=info_parts Tryz.infoG;have HI:=Hh (And.intro hi (And.intro hz0 (And.intro hz1 hz2)));have ha:=heap_alloc_new w (.cells #[.int .i64 (kk ax e 0:Nat),.int .i64 (kk ax e 1:Nat)] 132);have hb:=heap_alloc_new (w.alloc (.cells #[.int .i64 (kk ax e 0:Nat),.int .i64 (kk ax e 1:Nat)] 132)) (.cells #[.int .i64 (kk ax e 2:Nat),.int .i64 (kk ax e 3:Nat)] 132);rw[World.size_alloc] at hb;have b1:=(Below.refl w.heap.size w).alloc (Nat.le_refl _) (.cells #[.int .i64 (kk ax e 0:Nat),.int .i64 (kk ax e 1:Nat)] 132);have b2:=b1.alloc (by simp) (.cells #[.int .i64 (kk ax e 2:Nat),.int .i64 (kk ax e 3:Nat)] 132);have ha2:=(((Below.refl (w.heap.size+1) (w.alloc (.cells #[.int .i64 (kk ax e 0:Nat),.int .i64 (kk ax e 1:Nat)] 132))).alloc (by simp) (.cells #[.int .i64 (kk ax e 2:Nat),.int .i64 (kk ax e 3:Nat)] 132)).block w.heap.size (by omega)).trans ha;have HA:=Hh ha2;have HB:=Hh hb;have HBB:=Hh b2;have HN:=Hh h;have HL:=Hh hn;have HG:=Hh hg;clear h hn hg hi hz0 hz1 hz2 ha hb ha2 b1 b2;go_enter Tryz.func79,Tryz.ntmps79;go_wp2_with (first
  | (at_make;go_loud (refine wpList_make_full _ rfl _ _ 130 rfl (w.heap.size+2) 69 i0 _ 2 Tryz.underlying130 HI.out.1 HI.out.2.1 HI.out.2.2.1 .i64 .i64 _ _ (n+1) rfl rfl (by omega) (by omega) (by rw[HI.out.2.2.2];omega) (by unfold maxLen;omega) (by simp) ?_;intro w0 hown0 hgrow0;have S0:=Hh (show EgW w n l ax e _ (List.replicate (n+1) gv0) (fun _=>0) 0 false 0 w0 from⟨HBB.out.grown hgrow0 (by simp;omega) (fun k hk=>by cases hk),(hgrow0.block _ (by simp;omega) (fun k=>by cases k)).trans HA.out,(hgrow0.block _ (by simp) (fun k=>by cases k)).trans HB.out,OwnG.made hown0,fun j hj=>by omega,fun k=>by cases k⟩);clear hown0 hgrow0)))
 rw[World.size_alloc,World.size_alloc] at S0;obtain⟨gr,hgr⟩:∃g,g=w.heap.size+1+1:=⟨_,rfl⟩;have HGR:=Hh hgr;rw[←hgr] at S0 ⊢;clear hgr;go_loopw [8] (fun z wr=>∃(i:Nat) (L:List Gv) (F:Nat→Int),i≤n∧z=.int .i64 i∧EgW w n l ax e gr L F i false 0 wr) (fun z _=>n-(intOf z).toNat)
 case atStart=>exact⟨0,_,_,Nat.zero_le _,rfl,S0.out⟩
 case round =>
  obtain⟨i,L,F,hin,rfl,R⟩:=hrel;have RR:=Hh R;clear R;by_cases hlt:i<n
  ·have i1:(i:Int)<(n:Int):=by omega
   have i2:(0:Int)≤(i:Int):=by omega
   have t1:decide ((i:Int)<(n:Int))=true:=decide_eq_true i1;obtain⟨b,off,rfl,hbl,hcl⟩:=HN.out.at_ (by rw[HL.out];omega)
   have HC:=Hh (show NdAt w b (off+i*5) (at_ l i) from hcl i (by rw[HL.out];omega));have HBL:=Hh hbl;have HLT:=Hh hlt;obtain⟨c1,-⟩:=HC.out.below (RR.out.b.block b hbl);obtain⟨m,hm⟩:∃m:Nat,(at_ l i).lv=(m:Int)+1:=⟨(at_ l i).lv.toNat-1,by have:=zaH (zan.1 HG.out.1 i (by rw[HL.out];exact hlt));omega⟩;have hm9:m≤1328:=by have:=zaH (zan.1 HG.out.1 i (by rw[HL.out];exact hlt));omega
   rw[hm] at c1;have HM:=Hh hm;have j1:IntKind.i64.wrap ((m:Int)+1-1)=(m:Int):=by rw[show(m:Int)+1-1=(m:Int) by omega];exact IntWalk.i64_in _ (by omega)
   have j2:IntKind.i64.wrap (m:Int)=(m:Int):=IntWalk.i64_in _ (by omega);have HP:=Hh (show shlI 1 (m:Int)=p2 m from zdE _ (by omega));clear hcl hlt hbl hm;go_wp2_with (go_at_call 76;go_loud (refine(zbC _ _).mono ?_;rintro e w5 h5;rw[HP.out] at h5;obtain⟨hh,rfl,rh,b5⟩:=zaj h5;have RH:=Hh rh.box;have hs5:=b5.size;have hb9:=b5.alloc b5.size hh.obj;have R5:=Hh (RR.out.next hb9);have B5:=Hh hb9;clear h5 rh b5 hb9));obtain⟨g9,hg9⟩:∃g,g=w5.heap.size:=⟨_,rfl⟩;have hgg:g9≠gr:=by
    have h8:=RR.out.row.row.2.1;omega
   rw[←hg9] at RH ⊢;clear hs5 hg9 c1;go_loopw [11,10] (fun z z10 wi=>∃(j:Nat) (fd:Bool) (L:List Gv) (M:Int),j≤4∧z=.int .i64 j∧z10=.bool fd∧EgW w n l ax e gr L F i fd M wi∧EdJ ax e (at_ l i) (dF l ax e i m F) j fd M∧hh.B wi g9 (p2 m)∧0≤M∧M≤p2 (m+1)) (fun z _ _=>4-(intOf z).toNat)
   case atStart=>exact⟨0,false,L,0,by omega,rfl,rfl,R5.out,EdJ.start _ _ _ _ _,RH.out,by omega,by have:=zaz (m+1);omega⟩
   case round =>
    obtain⟨j,fd,L,M,hj,rfl,rfl,R,hJ,hB,hM⟩:=hrel;have HMM:=Hh hM;have RI:=Hh R;have HJ:=Hh hJ;have HH:=Hh hB;clear R hJ hB hM;by_cases hlt:j<4
    ·have j0:(0:Int)≤(j:Int):=by omega
     have j00:(j:Int)<4:=by omega
     have t2:decide ((j:Int)<4)=true:=decide_eq_true j00;obtain⟨jm,hjm⟩:∃k,k=j%2:=⟨_,rfl⟩;have e1:(j:Int)%2=(jm:Int):=by omega
     have e2:Int.tmod (j:Int) 2=(jm:Int):=by rw[Int.tmod_eq_emod_of_nonneg j0];exact e1
     have e3:(0:Int)≤(jm:Int):=by omega
     have e4:(jm:Int)<2:=by omega
     have d1:=zfA RI.out.nb jm (by omega);have d2:=zfA RI.out.fb jm (by omega);have e5:(if jm=0 then Value.int .i64 (kk ax e 0:Nat) else Value.int .i64 (kk ax e 1:Nat))=Value.int .i64 (kk ax e jm:Nat):=by
      split
      ·rename_i h9;rw[h9]
      ·rename_i h9;rw[show jm=1 by omega]
     have e6:(if jm=0 then Value.int .i64 (kk ax e 2:Nat) else Value.int .i64 (kk ax e 3:Nat))=Value.int .i64 (kk ax e (jm+2):Nat):=by
      split
      ·rename_i h9;rw[h9]
      ·rename_i h9;rw[show jm=1 by omega]
     rw[e5] at d1;rw[e6] at d2;have HJM:=Hh hjm;have c0:=HH.out.c0;have c1:=HH.out.c1;clear e5 e6 hjm;obtain⟨tj,htj⟩:∃t,t=decide ((j:Int)>1):=⟨_,rfl⟩;have HTJ:=Hh htj;have t3:=htj.symm;clear htj;go_upto_if 43 with(fail)
     have bz:=(Below.refl wr.heap.size wr).alloc (Nat.le_refl _) bw0.obj;have hz:=heap_alloc_new wr bw0.obj;dsimp only[bw0,Bw.obj,List.length_nil] at bz hz;obtain⟨W1,hW1⟩:∃W1:World,W1=wr.alloc (.cells #[.bool false,.slice none 0 0] 69):=⟨_,rfl⟩;rw[←hW1] at bz hz ⊢;obtain⟨g13,hg13⟩:∃g,g=wr.heap.size:=⟨_,rfl⟩;rw[←hg13] at hz ⊢;have hne:¬ g9=g13:=by have:=HH.out.lt;omega
     have H1:=Hh (HH.out.next bz);have R1:=Hh (RI.out.next bz);have BZ:=Hh bz;have HZ:=Hh (show W1.heap[g13]?=some bw0.obj from hz);have HG13:=Hh hg13;clear bz hz hW1 hg13 d1 d2 c0 c1;go_cut [12] from 44 to 48 (fun s12 wx=>s12=.int .i64 (kk ax e j:Nat)∧∃mo:Bw,mo.B wx g13 (if j<2 then 0 else p2 m)∧Below wr.heap.size wr wx)
     case first =>
      by_cases hj2:j<2
      ·have hkj:kk ax e jm=kk ax e j:=by rw[HJM.out,show j%2=j by omega]
       have htf:tj=false:=by rw[HTJ.out];exact decide_eq_false (by omega)
       subst htf;have HKJ:=Hh hkj;have HJ2:=Hh hj2;clear hkj hj2;go_wp2_with fail;go_meet;exact⟨by rw[HKJ.out],bw0,by rw[if_pos HJ2.out];exact⟨HZ.out,Us.nil _,⟨zbe,by simp[bw0]⟩,rfl⟩,BZ.out⟩
      ·have hkj:kk ax e (jm+2)=kk ax e j:=by rw[HJM.out,show j%2+2=j by omega]
       have htf:tj=true:=by rw[HTJ.out];exact decide_eq_true (by omega)
       subst htf;have d2:=zfA R1.out.fb jm (by omega);have e6:(if jm=0 then Value.int .i64 (kk ax e 2:Nat) else Value.int .i64 (kk ax e 3:Nat))=Value.int .i64 (kk ax e j:Nat):=by
        rw[←hkj];split
        ·rename_i h9;rw[h9]
        ·rename_i h9;rw[show jm=1 by omega]
       rw[e6] at d2;have c0:=H1.out.c0;have c1:=H1.out.c1;obtain⟨z0,z1,f0,f1⟩:=zee HZ.out;have HJ2:=Hh hj2;clear hkj hj2 e6;go_wp2_with fail;go_region;go_wp2_with fail;go_meet;have hst:=H1.out.r.set (o:=bw0) HZ.out;have hg13:=HG13.out;exact⟨rfl,hh,by rw[if_neg HJ2.out];exact hst.next (zac (Below.refl _ _) 1),zac ((BZ.out.setCell (p:=⟨g13,0,none⟩) (by show _≤g13;omega) _).setCell (p:=⟨g13,1,none⟩) (by show _≤g13;omega) _) 1⟩
     case rest =>
      obtain⟨rfl,mo,hmo,hbx⟩:=hcut;have R2:=Hh (RI.out.next hbx);have H2:=Hh (HH.out.next hbx);have HMO:=Hh hmo;have hk4:=zxN (ax:=ax) he hlt;have HK4:=Hh hk4;have hpen:=Hh (zxP (ax:=ax) (m:=m) he hlt);have hnd:=HC.out.below (R2.out.b.block b HBL.out);have hkid:=hnd.kid hk4;obtain⟨v1,-⟩:=hnd;rw[HM.out] at v1;obtain⟨kx,hkx⟩:∃k,k=kk ax e j:=⟨_,rfl⟩;rw[←hkx] at hk4 hkid;rw[←hkx];have HKX:=Hh hkx;have hy9:0≤(at_ l i).kid kx:=by
       have hfk:=zav (zan.1 HG.out.1 i (by rw[HL.out];exact HLT.out)) hk4;by_cases h1:(at_ l i).lv=1
       ·rw[h1,zeF] at hfk;exact(of_decide_eq_true hfk).1
       ·rcases zbc h1 hfk with h9|⟨p,h9,-⟩ <;> omega
      obtain⟨pp,hy⟩:∃pp:Nat,(pp:Int)=(at_ l i).kid kx:=⟨_,Int.toNat_of_nonneg hy9⟩;rw[←hy] at hkid;have HY:=Hh hy;have k0:(0:Int)≤(kx:Int):=by omega
      have k1:(kx:Int)<4:=by omega
      have q0:=HMO.out.c0;have q1:=HMO.out.c1;clear hkx hy hmo hbx hk4 t3 HTJ hy9;by_cases hy0:pp=0
      ·subst hy0;have HS:=Hh (HJ.out.skip (by rw[←HKX.out,←HY.out];rfl));go_wp2_with fail;go_roundw
       case rel=>exact⟨j+1,fd,L,M,by omega,by go_num,rfl,R2.out,HS.out,H2.out,HMM.out⟩
       case measure=>simp[intOf];omega
      ·have t4:((pp:Int)==0)=false:=beq_eq_false_iff_ne.2 (by omega);have HY0:=Hh hy0;clear hy0;obtain⟨tm,htm⟩:∃t,t=decide ((m:Int)+1>1):=⟨_,rfl⟩;have HTM:=Hh htm;have t5:=htm.symm;clear htm;have bm:=(Below.refl wc.heap.size wc).alloc (Nat.le_refl _) mo.obj;have v2:=((bm.cell (p:=⟨b,off+i*5,none⟩) (zag v1)).trans v1);dsimp only[Bw.obj] at v2;go_upto_if 64 with(fail)
       obtain⟨W2,hW2⟩:∃W:World,W=wc.alloc mo.obj:=⟨_,rfl⟩;obtain⟨g15,hg15⟩:∃g,g=wc.heap.size:=⟨_,rfl⟩;rw[←hW2] at bm;have HD:=Hh (show mo.B W2 g15 (if j<2 then 0 else p2 m) by rw[hW2,hg15];exact HMO.out.r.box);dsimp only[Bw.obj] at hW2;rw[←hg15,←hW2];have BM:=Hh bm;have R3:=Hh (R2.out.next bm);have H3:=Hh (H2.out.next bm);have M3:=Hh (HMO.out.next bm);have HG15:=Hh hg15;have hne3:¬ g13=g15:=by have:=HMO.out.lt;omega
       have hne4:¬ gr=g15:=by have:=R2.out.row.row.2.1;omega
       have hne5:¬ g9=g15:=by have:=H2.out.lt;omega
       clear hW2 hg15 v1 v2 bm q0 q1 hkid;go_cut [] from 65 to 70 (fun wx=>∃dd:Bw,dd.B wx g15 (dF l ax e i m F kx)∧Below wc.heap.size wc wx∧0≤dF l ax e i m F kx∧dF l ax e i m F kx≤p2 (m+1))
       case first =>
        by_cases hm0:m=0
        ·have htf:tm=false:=by rw[HTM.out];exact decide_eq_false (by omega)
         subst htf;have HM0:=Hh hm0;clear hm0;go_wp2_with fail;go_meet;exact⟨mo,by
          have h9:=HD.out;rw[←hpen.out,←HKX.out] at h9;unfold dF;rw[if_pos HM0.out,Int.zero_add];exact h9,BM.out,by
          have h9:=hpen.out;have h8:=zaz m;have h7:=zap m;rw[←HKX.out] at h9;unfold dF;rw[if_pos HM0.out,Int.zero_add,h9];split <;> omega⟩
        ·have htf:tm=true:=by rw[HTM.out];exact decide_eq_true (by omega)
         subst htf;obtain⟨p,hpp,hp,hpl⟩:∃p:Nat,pp=p+1∧p<i∧(at_ l p).lv=(m:Int):=by
          have hfk:=zav (zan.1 HG.out.1 i (by rw[HL.out];exact HLT.out)) (show kx<4 by omega);rw[←HY.out] at hfk;rcases zbc (by have:=HM.out;omega) hfk with h9|⟨p,h1,h2,h3⟩
          ·exact absurd (by omega) HY0.out
          ·have h4:p<i:=by rw[List.length_take] at h2;omega
           refine⟨p,by omega,h4,?_⟩;rw[zda h4] at h3;have:=HM.out;omega
         have hfin:=R3.out.fine p hp;rw[←hpp] at hfin;obtain⟨g2,hg2⟩:∃g,gat L pp=g:=⟨_,rfl⟩;rw[hg2] at hfin;obtain⟨hG2,hE2⟩:=hfin;have hlow:=hE2.low HG.out (by rw[HL.out];have:=HLT.out;omega) hpl;have hmm:=zaw (show m≤1330 by omega);have hm1:=zaz m;have hm2:=zaz 1330;have hl2:=zeY hG2.cn hG2.v (by omega) (by omega);have hl1:=zaX M3.out.r (by split <;> omega) (by split <;> omega);obtain⟨r0,r1⟩:=R3.out.row.row.2.2.1 pp (by have:=HLT.out;omega);rw[hg2] at r0 r1;have HG2:=Hh (show GIn W2.drew g2 (F p) from hG2.next (zac (Below.refl _ W2) 1));have M3d:=Hh (show mo.B W2.drew g13 (if j<2 then 0 else p2 m) from M3.out.next (zac (Below.refl _ W2) 1));have q0:=M3.out.c0;have q1:=M3.out.c1;have f2:(0:Int)≤(pp:Int):=by omega
         have f3:(pp:Int)<(n:Int)+1:=by have:=HLT.out;omega
         have HDF:=Hh (show dF l ax e i m F kx=(if j<2 then 0 else p2 m)+F p by
          have h9:=hpen.out;rw[←HKX.out] at h9;unfold dF;rw[if_neg hm0,h9,←HY.out,show((pp:Int)).toNat-1=p by omega,Int.add_comm])
         have HLO:=Hh hlow;clear hG2 hE2 hlow hm0 hpp hg2 hmm hm1 hm2;go_wp2_with fail;go_region_held3 (fun w'=>w'.cell? ⟨g13,0,none⟩=some (.bool mo.s)∧w'.cell? ⟨g13,1,none⟩=some (.slice mo.a mo.xs.length mo.c)∧w'.cell? ⟨gr,pp*2,none⟩=some (.bool g2.s)∧w'.cell? ⟨gr,pp*2+1,none⟩=some (.slice g2.a g2.xs.length g2.c))
          (first|go_keep|exact⟨q0,q1,r0,r1⟩|exact⟨zgn hne3 q0,zgn hne3 q1,zgn hne4 r0,zgn hne4 r1⟩)
          (first
           | (go_at_call 61;refine(zaG mo.s g2.s mo.a g2.a mo.c g2.c mo.xs g2.xs _ M3d.out.r.us HG2.out.us (by omega) (by omega)).mono ?_;rintro en w6 h6;obtain⟨dd,rfl,rd,b6⟩:=zaj h6;rw[M3d.out.r.v,HG2.out.v] at rd;have RD:=Hh rd;have b7:=(zac (Below.refl _ W2) 1).trans b6;have B6:=Hh b7;have hdb:=Hh ((b7.block _ (zab HD.out.box)).trans HD.out.box);obtain⟨z0,z1⟩:=zak hdb.out;have z2:=frozen_of_row w6 g15 0 _ _ hdb.out;have z3:=frozen_of_row w6 g15 1 _ _ hdb.out;have q0:=(b7.cell (p:=⟨g13,0,none⟩) M3.out.lt).trans q0;have q1:=(b7.cell (p:=⟨g13,1,none⟩) M3.out.lt).trans q1;have r0:=(b7.cell (p:=⟨gr,pp*2,none⟩) (zag r0)).trans r0;have r1:=(b7.cell (p:=⟨gr,pp*2+1,none⟩) (zag r1)).trans r1;clear h6 rd b6 b7))
         all_goals
          go_wp2_with fail;go_meet;have hst:=RD.out.set (o:=mo) hdb.out;have hg15:=HG15.out;exact⟨dd,by rw[HDF.out];exact hst,(BM.out.trans (B6.out.mono BM.out.size)).setCell (p:=⟨g15,0,none⟩) (by show _≤g15;omega) _ |>.setCell (p:=⟨g15,1,none⟩) (by show _≤g15;omega) _,by rw[HDF.out];have:=HLO.out;have:=zap m;split <;> omega⟩
       case rest =>
        obtain⟨dd,hdd,hbx,hdl⟩:=hcut;have R4:=Hh (R2.out.next hbx);have H4:=Hh (H2.out.next hbx);have DD:=Hh hdd;have hnz:(at_ l i).kid (kk ax e j)≠0:=by rw[←HKX.out,←HY.out];have:=HY0.out;omega
        have HNZ:=Hh hnz;obtain⟨D,hD⟩:∃D,D=dF l ax e i m F kx:=⟨_,rfl⟩;rw[←hD] at DD hdl;have HDL:=Hh hdl;have HDE:=Hh hD;obtain⟨ip,hip⟩:∃q,q=i+1:=⟨_,rfl⟩;have f4:IntKind.i64.wrap ((i:Int)+1)=(ip:Int):=by rw[show(i:Int)+1=(ip:Int) by omega];exact IntWalk.i64_in _ (by have:=HLT.out;omega)
        have f5:(0:Int)≤(ip:Int):=by omega
        have f6:(ip:Int)<(n:Int)+1:=by have:=HLT.out;omega
        have f7:IntKind.i64.wrap (ip:Int)=(ip:Int):=IntWalk.i64_in _ (by have:=HLT.out;omega);have HIP:=Hh hip;have d0:=DD.out.c0;have d1:=DD.out.c1;obtain⟨r0,r1⟩:=R4.out.row.row.2.2.1 ip (by have:=HLT.out;omega);have rf:=R4.out.row.row.2.2.2.1;have rf0:=rf (ip*2);have rf1:=rf (ip*2+1);have hdc:=DD.out.r.us.cap;clear hdd hbx hnz hD hip hdl t5 HTM rf;cases fd with
        | false =>
         go_wp2_with fail;go_quiet (fail);have hbq:=zac (Below.refl wc.heap.size wc) nq;obtain⟨W3,hW3⟩:∃W,W=wc.drewN nq:=⟨_,rfl⟩;rw[←hW3] at hbq ⊢;have R5:=Hh (R4.out.next hbq);have H5:=Hh (H4.out.next hbq);have D5:=Hh (DD.out.next hbq);clear d0 d1 r0 r1 rf0 rf1 hW3 hbq;have d0:=D5.out.c0;have d1:=D5.out.c1;obtain⟨r0,r1⟩:=R5.out.row.row.2.2.1 ip (by have:=HLT.out;omega);have rf0:=R5.out.row.row.2.2.2.1 (ip*2);have rf1:=R5.out.row.row.2.2.2.1 (ip*2+1);go_wp2_with fail;go_region;go_wp2_with fail;go_roundw
         case rel =>
          have hp:=R5.out.put HLT.out D5.out.r.us D5.out.r.cn D5.out.r.v;have hh2:=H5.out.over hgg R5.out.row.row.2.2.2.2 (zju W3 gr ((i+1)*2) ((i+1)*2+1) (.bool dd.s) (.slice dd.a dd.xs.length dd.c));rw[←HIP.out] at hp hh2;refine⟨j+1,true,L.set ip ⟨dd.s,dd.a,dd.c,dd.xs⟩,D,by omega,by go_num,rfl,hp.next (zac (Below.refl _ _) 1),?_,hh2.next (zac (Below.refl _ _) 1),HDL.out⟩;have hj:=HJ.out.first HNZ.out
          rw[←HKX.out,←HDE.out] at hj;exact hj
         case measure=>simp[intOf];omega
        | true =>
         obtain⟨gi,hgi⟩:∃g,gat L ip=g:=⟨_,rfl⟩;have hG:=R4.out.now rfl;rw[←HIP.out,hgi] at hG;rw[hgi] at r0 r1;have hGd:=hG.next (zac (Below.refl _ wc) 1);have hDd:=DD.out.next (zac (Below.refl _ wc) 1);have mm1:=zaw (show m+1≤1330 by omega);have mm2:=zaz 1330;have l1:dd.xs.length≤60000:=Nat.le_trans (zaX DD.out.r (by have:=HDL.out;omega) (by have:=HDL.out;omega)) (by omega);have l2:gi.xs.length≤60000:=Nat.le_trans (zeY hG.cn hG.v (by have:=HMM.out;omega) (by have:=HMM.out;omega)) (by omega);have HGI:=Hh hGd;have HDI:=Hh hDd;obtain⟨r,hr⟩:∃r,r=ordI D M:=⟨_,rfl⟩;have er:decide (ordI D M<0)=decide (D<M):=zjn;rw[←hr] at er;have HR:=Hh hr;have HER:=Hh er;have R4d:=Hh (R4.out.next (zac (Below.refl _ wc) 1));have H4d:=Hh (H4.out.next (zac (Below.refl _ wc) 1));clear hr er hG hGd hDd hgi mm1 mm2;by_cases hlt2:D<M
         ·have t6:decide (r<0)=true:=by rw[HER.out];exact decide_eq_true hlt2
          have HLT2:=Hh hlt2;clear hlt2;go_wp2_with fail;go_region_held3 (fun w'=>w'.cell? ⟨g15,0,none⟩=some (.bool dd.s)∧w'.cell? ⟨g15,1,none⟩=some (.slice dd.a dd.xs.length dd.c)∧w'.cell? ⟨gr,ip*2,none⟩=some (.bool gi.s)∧w'.cell? ⟨gr,ip*2+1,none⟩=some (.slice gi.a gi.xs.length gi.c))
           (first|go_keep|exact⟨d0,d1,r0,r1⟩)
           (first
            | (go_at_call 55;refine(zaD dd.s gi.s dd.a gi.a dd.c gi.c dd.xs gi.xs _ HDI.out.r.us HGI.out.us l1 l2).mono ?_;rintro en W3 ⟨rfl,b7⟩;rw[HDI.out.r.v,HGI.out.v,←HR.out];have R5:=Hh (R4d.out.next b7);have H5:=Hh (H4d.out.next b7);have D5:=Hh (HDI.out.next b7);have d0:=D5.out.c0;have d1:=D5.out.c1;have r0:=(b7.cell (p:=⟨gr,ip*2,none⟩) (zag r0)).trans r0;have r1:=(b7.cell (p:=⟨gr,ip*2+1,none⟩) (zag r1)).trans r1;have rf0:=R5.out.row.row.2.2.2.1 (ip*2);have rf1:=R5.out.row.row.2.2.2.1 (ip*2+1);clear b7))
          all_goals
           go_wp2_with fail;go_region;go_wp2_with fail;go_roundw
           case rel =>
            have hp:=R5.out.put HLT.out D5.out.r.us D5.out.r.cn D5.out.r.v;have hh2:=H5.out.over hgg R5.out.row.row.2.2.2.2 (zju W3 gr ((i+1)*2) ((i+1)*2+1) (.bool dd.s) (.slice dd.a dd.xs.length dd.c));rw[←HIP.out] at hp hh2;refine⟨j+1,true,L.set ip ⟨dd.s,dd.a,dd.c,dd.xs⟩,D,by omega,by go_num,rfl,hp.next (zac (Below.refl _ _) 1),?_,hh2.next (zac (Below.refl _ _) 1),HDL.out⟩;have hj:=HJ.out.less HNZ.out (by rw[←HKX.out,←HDE.out];exact HLT2.out);rw[←HKX.out,←HDE.out] at hj;exact hj
           case measure=>simp[intOf];omega
         ·have t6:decide (r<0)=false:=by rw[HER.out];exact decide_eq_false hlt2
          have HLT2:=Hh (show ¬ D<M from hlt2);clear hlt2;go_wp2_with fail;go_region_held3 (fun w'=>w'.cell? ⟨g15,0,none⟩=some (.bool dd.s)∧w'.cell? ⟨g15,1,none⟩=some (.slice dd.a dd.xs.length dd.c)∧w'.cell? ⟨gr,ip*2,none⟩=some (.bool gi.s)∧w'.cell? ⟨gr,ip*2+1,none⟩=some (.slice gi.a gi.xs.length gi.c))
           (first|go_keep|exact⟨d0,d1,r0,r1⟩)
           (first
            | (go_at_call 55;refine(zaD dd.s gi.s dd.a gi.a dd.c gi.c dd.xs gi.xs _ HDI.out.r.us HGI.out.us l1 l2).mono ?_;rintro en W3 ⟨rfl,b7⟩;rw[HDI.out.r.v,HGI.out.v,←HR.out];have R5:=Hh (R4d.out.next b7);have H5:=Hh (H4d.out.next b7);have d0:=(b7.cell (p:=⟨g15,0,none⟩) (zag d0)).trans d0;have d1:=(b7.cell (p:=⟨g15,1,none⟩) (zag d1)).trans d1;have r0:=(b7.cell (p:=⟨gr,ip*2,none⟩) (zag r0)).trans r0;have r1:=(b7.cell (p:=⟨gr,ip*2+1,none⟩) (zag r1)).trans r1;clear b7))
          all_goals
           go_wp2_with fail;go_roundw
           case rel=>exact⟨j+1,true,L,M,by omega,by go_num,rfl,R5.out,HJ.out.more (by rw[←HKX.out,←HDE.out];have:=HLT2.out;omega),H5.out,HMM.out⟩
           case measure=>simp[intOf];omega
    ·have hj4:j=4:=by omega
     subst hj4;go_wp2_with fail;go_roundw
     case rel =>
      obtain⟨hf,hE⟩:=HJ.out.done HG.out he (by rw[HL.out];exact HLT.out) HM.out (fun j hj=>(RI.out.fine j hj).2);subst hf;exact⟨i+1,L,_,by have:=HLT.out;omega,by go_num,RI.out.step hE⟩
     case measure=>simp[intOf];have:=HLT.out;omega
  ·have hi:i=n:=by omega
   subst hi;go_wp2_with fail;go_ret;exact⟨gr,L,F,rfl,RR.out⟩
end Go.Proofs.YtbabbmdpgpcgjaaGreatDoor
