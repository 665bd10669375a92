import Derived.Test.YtfjajpnfjjdnpaaGreatDoorVBxT

set_option linter.unusedVariables false
set_option linter.unusedSimpArgs false
set_option maxRecDepth 100000
set_option maxHeartbeats 6400000
namespace Go.Proofs.YtfjajpnfjjdnpaaGreatDoor
open Go.RowKit Num Nds
def xb0:Xb:=⟨bw0,bw0,bw0,bw0⟩
def ziH (l:List Nd)(ax n:Nat)(X Y:Int):Prop:=EdS ax 0 (at_ l (n-1)).lv.toNat (fun u=>u=den l n) (edZ 0 (at_ l (n-1)).lv.toNat X)∧EdS ax 1 (at_ l (n-1)).lv.toNat (fun u=>u=den l n) (edZ 1 (at_ l (n-1)).lv.toNat Y)
theorem ziH.low {l:List Nd}{ax n:Nat}{X Y:Int}(h:ziH l ax n X Y)(hg:zaw l)(hn:l.length=n)(h0:0<n):(-p2 1328≤X∧X≤p2 1328)∧-p2 1328≤Y∧Y≤p2 1328:=by
 have hlv:=zaq (zaf hg.1 (i:=n-1) (by omega));have hw:=zcn hg.1 (n-1) (by omega);rw[Nat.sub_add_cancel (by omega)] at hw;obtain⟨top,htop⟩:∃top:Nat,(at_ l (n-1)).lv=(top:Int):=⟨(at_ l (n-1)).lv.toNat,by omega⟩;obtain⟨h1,h2⟩:=h;rw[htop] at hlv hw h1 h2;rw[Int.toNat_natCast] at h1 h2;have e1:=h1.in_ (fun t ht=>by have ht':t=den l n:=ht;rw[ht'];exact hw);have e2:=h2.in_ (fun t ht=>by have ht':t=den l n:=ht;rw[ht'];exact hw);have m2:=zbE (show top-1≤1328 by omega);have m3:=zau (top-1);rw[Nat.sub_add_cancel (by omega)] at m3;unfold edZ at e1 e2;rw[if_pos rfl] at e1;rw[if_neg (by omega)] at e2;omega
structure OfI (w:World)(A:Option Addr)(c n:Nat)(l:List Nd)(j:Nat)(p q:Bool)(v4 v5 t12 t14:Value)(W:World):Prop where
 b:Below w.heap.size w W
 x:W.heap[w.heap.size]?=some (.cells #[.slice A n c] 28)
 r:W.heap[w.heap.size+1]?=some xb0.obj
 s4:p=true→∃g,v4=.pointer (some ⟨g,0,none⟩)∧W.heap[g]?=some (twoO bw0 bw0)∧w.heap.size+2≤g
 s5:q=true→∃g,v5=.pointer (some ⟨g,0,none⟩)∧W.heap[g]?=some (twoO bw0 bw0)∧w.heap.size+2≤g
 ne:p=true→q=true→¬ v4=v5
 c1:1≤j→∃(u v:Bw) (X Y:Int),t12=twoV u v∧u.R W X∧v.R W Y∧ziH l 0 n X Y
 c2:2≤j→∃(u v:Bw) (X Y:Int),t14=twoV u v∧u.R W X∧v.R W Y∧ziH l 1 n X Y
section
variable {w W W':World} {A:Option Addr} {c n j:Nat} {l:List Nd} {p q:Bool} {v4 v5 t12 t14 t:Value} {e:Ending}
theorem OfI.next (h:OfI w A c n l j p q v4 v5 t12 t14 W)(k:Below W.heap.size W W'):OfI w A c n l j p q v4 v5 t12 t14 W' :=
 ⟨h.b.trans (k.mono h.b.size),(k.block _ (Array.getElem?_eq_some_iff.1 h.x).1).trans h.x,(k.block _ (Array.getElem?_eq_some_iff.1 h.r).1).trans h.r,fun e=>by
  obtain⟨g,h1,h2,h3⟩:=h.s4 e;exact⟨g,h1,(k.block _ (Array.getElem?_eq_some_iff.1 h2).1).trans h2,h3⟩,fun e=>by
  obtain⟨g,h1,h2,h3⟩:=h.s5 e;exact⟨g,h1,(k.block _ (Array.getElem?_eq_some_iff.1 h2).1).trans h2,h3⟩,h.ne,fun e=>by
  obtain⟨u,v,X,Y,h1,h2,h3,h4⟩:=h.c1 e;exact⟨u,v,X,Y,h1,h2.next k,h3.next k,h4⟩,fun e=>by
  obtain⟨u,v,X,Y,h1,h2,h3,h4⟩:=h.c2 e;exact⟨u,v,X,Y,h1,h2.next k,h3.next k,h4⟩⟩
theorem OfI.call1 (h:OfI w A c n l 0 p q v4 v5 t12 t14 W)(k:zol l 0 n W (.returned t) W'):OfI w A c n l 1 p q v4 v5 t t14 W':=by
 obtain⟨u,v,X,Y,h1,h2,h3,h4,h5,h6⟩:=k;have hn:=h.next h6;injection h1 with h1
 exact⟨hn.b,hn.x,hn.r,hn.s4,hn.s5,hn.ne,fun _=>⟨u,v,X,Y,h1,h2,h3,h4,h5⟩,fun e=>by omega⟩
theorem OfI.call2 (h:OfI w A c n l 1 p q v4 v5 t12 t14 W)(k:zol l 1 n W (.returned t) W'):OfI w A c n l 2 p q v4 v5 t12 t W':=by
 obtain⟨u,v,X,Y,h1,h2,h3,h4,h5,h6⟩:=k;have hn:=h.next h6;injection h1 with h1
 exact⟨hn.b,hn.x,hn.r,hn.s4,hn.s5,hn.ne,fun _=>hn.c1 (by omega),fun _=>⟨u,v,X,Y,h1,h2,h3,h4,h5⟩⟩
theorem OfI.allocP (h:OfI w A c n l j false q v4 v5 t12 t14 W):OfI w A c n l j true q (.pointer (some ⟨W.heap.size,0,none⟩)) v5 t12 t14 (W.alloc (twoO bw0 bw0)):=by
 have hn:=h.next ((Below.refl W.heap.size W).alloc (Nat.le_refl _) (twoO bw0 bw0));have hr:=(Array.getElem?_eq_some_iff.1 h.r).1;exact⟨hn.b,hn.x,hn.r,fun _=>⟨_,rfl,heap_alloc_new W _,by omega⟩,hn.s5,fun _ eq e=>by
  obtain⟨g,h1,h2,-⟩:=h.s5 eq;rw[←e] at h1;injection h1 with h1
  injection h1 with h1
  injection h1 with h1
  have h3:=(Array.getElem?_eq_some_iff.1 h2).1;omega,hn.c1,hn.c2⟩
theorem OfI.allocQ (h:OfI w A c n l j p false v4 v5 t12 t14 W):OfI w A c n l j p true v4 (.pointer (some ⟨W.heap.size,0,none⟩)) t12 t14 (W.alloc (twoO bw0 bw0)):=by
 have hn:=h.next ((Below.refl W.heap.size W).alloc (Nat.le_refl _) (twoO bw0 bw0));have hr:=(Array.getElem?_eq_some_iff.1 h.r).1;exact⟨hn.b,hn.x,hn.r,hn.s4,fun _=>⟨_,rfl,heap_alloc_new W _,by omega⟩,fun ep _ e=>by
  obtain⟨g,h1,h2,-⟩:=h.s4 ep;rw[e] at h1;injection h1 with h1
  injection h1 with h1
  injection h1 with h1
  have h3:=(Array.getElem?_eq_some_iff.1 h2).1;omega,hn.c1,hn.c2⟩
end
def put2 (W:World)(g:Nat)(u v:Bw):World:=(((W.setCell ⟨g,0,none⟩ (.bool u.s)).setCell ⟨g,1,none⟩ (.slice u.a u.xs.length u.c)).setCell ⟨g,2,none⟩ (.bool v.s)).setCell ⟨g,3,none⟩ (.slice v.a v.xs.length v.c)
theorem zom {W:World}{g:Nat}{a b:Bw}(h:W.heap[g]?=some (twoO a b))(u v:Bw):(put2 W g u v).heap[g]?=some (twoO u v) :=
 (heap_setCell_same _ _ 3 _ _ _ (heap_setCell_same _ _ 2 _ _ _ (heap_setCell_same _ _ 1 _ _ _ (heap_setCell_same W _ 0 _ _ _ h)))).trans rfl
theorem zcF {W:World}{g k:Nat}(hk:k≠g)(u v:Bw):(put2 W g u v).heap[k]?=W.heap[k]? :=
 (((Below.heap_setCell _ _ _ _ hk).trans (Below.heap_setCell _ _ _ _ hk)).trans (Below.heap_setCell _ _ _ _ hk)).trans (Below.heap_setCell _ _ _ _ hk)
theorem zon (W:World)(g:Nat)(u v:Bw):(put2 W g u v).heap.size=W.heap.size:=by simp[put2,World.setCell]
theorem zgS {B:Nat}{w W:World}(h:Below B w W){g:Nat}(hg:B≤g)(u v:Bw):Below B w (put2 W g u v) :=
 ((((h.setCell (p:=⟨g,0,none⟩) hg _).setCell (p:=⟨g,1,none⟩) hg _).setCell (p:=⟨g,2,none⟩) hg _).setCell (p:=⟨g,3,none⟩) hg _)
theorem Bw.R.put2 {x:Bw}{W:World}{X:Int}(h:x.R W X){g:Nat}{a b:Bw}(hb:W.heap[g]?=some (twoO a b))(u v:Bw):x.R (put2 W g u v) X :=
 ⟨zcE h.us (fun q _ hq=>zcF hq u v) (by rw[zon];exact Nat.le_refl _) (zfX h.us (ziG hb)),h.cn,h.v⟩
def BoC (w:World)(l:List Nd)(n:Nat)(s4 s5:Value)(W:World):Prop :=
 ∃(g4 g5:Nat) (u v x y:Bw) (X Y Z T:Int),s4=.pointer (some ⟨g4,0,none⟩)∧s5=.pointer (some ⟨g5,0,none⟩)∧W.heap[g4]?=some (twoO u v)∧W.heap[g5]?=some (twoO x y)∧u.R W X∧v.R W Y∧x.R W Z∧y.R W T∧ziH l 0 n X Y∧ziH l 1 n Z T∧Below w.heap.size w W∧W.heap[w.heap.size+1]?=some xb0.obj∧w.heap.size+2≤g4∧w.heap.size+2≤g5
theorem OfI.last {w W:World}{A:Option Addr}{c n:Nat}{l:List Nd}{v4 v5 t12 t14:Value}(h:OfI w A c n l 2 true true v4 v5 t12 t14 W) :
  ∃(g4 g5:Nat) (u v x y:Bw),v4=.pointer (some ⟨g4,0,none⟩)∧v5=.pointer (some ⟨g5,0,none⟩)∧t12=twoV u v∧t14=twoV x y∧¬ g4=g5∧¬ g5=g4∧¬ w.heap.size=g4∧¬ w.heap.size=g5∧W.heap[g4]?=some (twoO bw0 bw0)∧(put2 W g4 u v).heap[g5]?=some (twoO bw0 bw0) ∧
   BoC w l n v4 v5 (put2 (put2 W g4 u v) g5 x y):=by
 obtain⟨g4,rfl,h1,h2⟩:=h.s4 rfl;obtain⟨g5,rfl,h3,h4⟩:=h.s5 rfl;obtain⟨u,v,X,Y,rfl,ru,rv,s1⟩:=h.c1 (by omega);obtain⟨x,y,Z,T,rfl,rx,ry,s2⟩:=h.c2 (by omega);have hne:¬ g4=g5:=fun e=>h.ne rfl rfl (by rw[e]);have h5:(put2 W g4 u v).heap[g5]?=some (twoO bw0 bw0):=(zcF (fun e=>hne e.symm) u v).trans h3;refine⟨g4,g5,u,v,x,y,rfl,rfl,rfl,rfl,hne,fun e=>hne e.symm,by omega,by omega,h1,h5,g4,g5,u,v,x,y,X,Y,Z,T,rfl,rfl,(zcF hne x y).trans (zom h1 u v),zom h5 x y,(ru.put2 h1 u v).put2 h5 x y,(rv.put2 h1 u v).put2 h5 x y,(rx.put2 h1 u v).put2 h5 x y,(ry.put2 h1 u v).put2 h5 x y,s1,s2,zgS (zgS h.b (show _≤g4 by omega) u v) (show _≤g5 by omega) x y,(zcF (by omega) x y).trans ((zcF (by omega) u v).trans h.r),h2,h4⟩
theorem zfs (n c:Nat)(A:Option Addr)(l:List Nd)(w:World)(h:Ns w A c l)(hn:l.length=n)(h0:0<n)(hn9:n≤900000)(hg:zaw l) :
  Calls Tryz.prog 161 #[.agg #[.slice A n c],.int .i64 0] w (zol l 0 n w):=zgR 0 n c A l w h hn h0 hn9 hg (by omega)
theorem zft (n c:Nat)(A:Option Addr)(l:List Nd)(w:World)(h:Ns w A c l)(hn:l.length=n)(h0:0<n)(hn9:n≤900000)(hg:zaw l) :
  Calls Tryz.prog 161 #[.agg #[.slice A n c],.int .i64 1] w (zol l 1 n w):=zgR 1 n c A l w h hn h0 hn9 hg (by omega)
def zsH (l:List Nd)(n:Nat)(w:World)(e:Ending)(w':World):Prop :=
 ∃(u:Xb) (X Y V H:Int) (ok:Bool),e=.returned (.tuple #[u.val,.bool ok])∧u.R w' X Y V H∧u.Sh∧Below w.heap.size w w' ∧
  ((n=0∧ok=false∧X=0∧Y=0∧V=0∧H=0)∨(0<n∧ok=true∧BoxT (den l n) (at_ l (n-1)).lv.toNat X Y V H))
theorem zmm (W:World):bw0.R W 0:=⟨Us.nil W,⟨zbk,by simp[bw0]⟩,rfl⟩
theorem Xb.cellsF {W:World}{g:Nat}{u:Xb}(h:W.heap[g]?=some u.obj):W.frozen? ⟨g,0,none⟩=false∧W.frozen? ⟨g,1,none⟩=false∧W.frozen? ⟨g,2,none⟩=false∧W.frozen? ⟨g,3,none⟩=false∧W.frozen? ⟨g,4,none⟩=false∧W.frozen? ⟨g,5,none⟩=false∧W.frozen? ⟨g,6,none⟩=false∧W.frozen? ⟨g,7,none⟩=false:=by
 refine⟨?_,?_,?_,?_,?_,?_,?_,?_⟩ <;> exact frozen_of_row W g _ _ _ h
theorem zsI {W:World}{g:Nat}{u:Xb}(h:W.heap[g]?=some u.obj):∀o x,W.cell? ⟨g,o,none⟩=some x→∀k,x≠.int .u32 k:=fun o x hx k e=>by
 subst e;rw[cell_of_row W g _ _ _ _ h] at hx
 match o with
 | 0=>simp at hx
 | 1=>simp at hx
 | 2=>simp at hx
 | 3=>simp at hx
 | 4=>simp at hx
 | 5=>simp at hx
 | 6=>simp at hx
 | 7=>simp at hx
 | o+8=>simp at hx
def putX (W:World)(g:Nat)(b:Xb):World:=(((((((W.setCell ⟨g,0,none⟩ (.bool b.x.s)).setCell ⟨g,1,none⟩ (.slice b.x.a b.x.xs.length b.x.c)).setCell ⟨g,2,none⟩ (.bool b.y.s)).setCell ⟨g,3,none⟩ (.slice b.y.a b.y.xs.length b.y.c)).setCell ⟨g,4,none⟩ (.bool b.w.s)).setCell ⟨g,5,none⟩ (.slice b.w.a b.w.xs.length b.w.c)).setCell ⟨g,6,none⟩ (.bool b.h.s)).setCell ⟨g,7,none⟩ (.slice b.h.a b.h.xs.length b.h.c)
theorem zoo {W:World}{g:Nat}{a0 a1 a2 a3 a4 a5 a6 a7 b0 b1 b2 b3:Value}{t:TypeId}(h:W.heap[g]?=some (.cells #[a0,a1,a2,a3,a4,a5,a6,a7] t)) :
  ((((W.setCell ⟨g,0,none⟩ b0).setCell ⟨g,1,none⟩ b1).setCell ⟨g,2,none⟩ b2).setCell ⟨g,3,none⟩ b3).heap[g]?=some (.cells #[b0,b1,b2,b3,a4,a5,a6,a7] t) :=
 (heap_setCell_same _ _ 3 _ _ _ (heap_setCell_same _ _ 2 _ _ _ (heap_setCell_same _ _ 1 _ _ _ (heap_setCell_same W _ 0 _ _ _ h)))).trans rfl
theorem zop {W:World}{g:Nat}{a0 a1 a2 a3 a4 a5 a6 a7 b0 b1 b2 b3:Value}{t:TypeId}(h:W.heap[g]?=some (.cells #[a0,a1,a2,a3,a4,a5,a6,a7] t)) :
  ((((W.setCell ⟨g,4,none⟩ b0).setCell ⟨g,5,none⟩ b1).setCell ⟨g,6,none⟩ b2).setCell ⟨g,7,none⟩ b3).heap[g]?=some (.cells #[a0,a1,a2,a3,b0,b1,b2,b3] t) :=
 (heap_setCell_same _ _ 7 _ _ _ (heap_setCell_same _ _ 6 _ _ _ (heap_setCell_same _ _ 5 _ _ _ (heap_setCell_same W _ 4 _ _ _ h)))).trans rfl
theorem zsJ {W:World}{g:Nat}{a:Xb}(h:W.heap[g]?=some a.obj)(b:Xb):(putX W g b).heap[g]?=some b.obj:=zop (zoo h)
theorem zhO {W:World}{g k:Nat}(hk:k≠g)(b:Xb):(putX W g b).heap[k]?=W.heap[k]? :=
 (((((((Below.heap_setCell _ _ _ _ hk).trans (Below.heap_setCell _ _ _ _ hk)).trans (Below.heap_setCell _ _ _ _ hk)).trans (Below.heap_setCell _ _ _ _ hk)).trans (Below.heap_setCell _ _ _ _ hk)).trans (Below.heap_setCell _ _ _ _ hk)).trans (Below.heap_setCell _ _ _ _ hk)).trans (Below.heap_setCell _ _ _ _ hk)
theorem zoq (W:World)(g:Nat)(b:Xb):(putX W g b).heap.size=W.heap.size:=by simp[putX,World.setCell]
theorem zmn {B:Nat}{w W:World}(h:Below B w W){g:Nat}(hg:B≤g)(b:Xb):Below B w (putX W g b) :=
 (((((((h.setCell (p:=⟨g,0,none⟩) hg _).setCell (p:=⟨g,1,none⟩) hg _).setCell (p:=⟨g,2,none⟩) hg _).setCell (p:=⟨g,3,none⟩) hg _).setCell (p:=⟨g,4,none⟩) hg _).setCell (p:=⟨g,5,none⟩) hg _).setCell (p:=⟨g,6,none⟩) hg _).setCell (p:=⟨g,7,none⟩) hg _
theorem Bw.R.putX {x:Bw}{W:World}{X:Int}(h:x.R W X){g:Nat}{a:Xb}(hb:W.heap[g]?=some a.obj)(b:Xb):x.R (putX W g b) X :=
 ⟨zcE h.us (fun q _ hq=>zhO hq b) (by rw[zoq];exact Nat.le_refl _) (zfX h.us (zsI hb)),h.cn,h.v⟩
theorem zqI {l:List Nd}{n:Nat}{X Y Z T:Int}(h:ziH l 0 n X Y)(k:ziH l 1 n Z T):BoxT (den l n) (at_ l (n-1)).lv.toNat X Z (Y-X+1) (T-Z+1):=by
 obtain⟨h1,h2⟩:=h;obtain⟨h3,h4⟩:=k;unfold edZ at h1 h2 h3 h4;rw[if_pos rfl] at h1 h3;rw[if_neg (by omega)] at h2 h4;refine⟨h1,h3,?_,?_⟩
 ·generalize (at_ l (n-1)).lv.toNat=top at *;rw[show p2 top-(Y-X+1)-(X+p2 (top-1))=p2 top-1-(Y+p2 (top-1)) by omega];exact h2
 ·generalize (at_ l (n-1)).lv.toNat=top at *;rw[show p2 top-(T-Z+1)-(Z+p2 (top-1))=p2 top-1-(T+p2 (top-1)) by omega];exact h4
theorem zqJ (A:Option Addr)(c:Nat)(w:World):Calls Tryz.prog 122 #[.agg #[.slice A 0 c]] w (zsH [] 0 w):=by
 have b1:=(Below.refl w.heap.size w).alloc (Nat.le_refl _) (.cells #[.slice A 0 c] 28);have b2:=b1.alloc (by simp) xb0.obj;have hr:=heap_alloc_new (w.alloc (.cells #[.slice A 0 c] 28)) xb0.obj;rw[World.size_alloc] at hr;obtain⟨e0,e1,e2,e3,e4,e5,e6,e7⟩:=Xb.cells hr;have HB:=Hh b2;dsimp only[xb0,bw0,Xb.obj,List.length_nil] at e0 e1 e2 e3 e4 e5 e6 e7 HB;clear b1 b2 hr;go_enter Tryz.func122,Tryz.ntmps122;go_wp2_with fail;refine bodyPost_ret (v:=.tuple #[xb0.val,.bool false]) (by simp[results,Tryz.results122,go_sem,e0,e1,e2,e3,e4,e5,e6,e7,xb0,bw0]) rfl ?_;exact⟨xb0,0,0,0,0,false,rfl,⟨zmm _,zmm _,zmm _,zmm _⟩,⟨by simp[xb0,bw0],by simp[xb0,bw0],by simp[xb0,bw0],by simp[xb0,bw0]⟩,HB.out,.inl ⟨rfl,rfl,rfl,rfl,rfl,rfl⟩⟩
theorem zqK (n c:Nat)(A:Option Addr)(l:List Nd)(w:World)(h:Ns w A c l)(hn:l.length=n)(h0:0<n)(hn9:n≤900000)(hg:zaw l) :
  Calls Tryz.prog 122 #[.agg #[.slice A n c]] w (zsH l n w):=by
 have hcap:=h.cap;rw[hn] at hcap;have b1:=(Below.refl w.heap.size w).alloc (Nat.le_refl _) (.cells #[.slice A n c] 28);have b2:=b1.alloc (by simp) xb0.obj;have hq:=heap_alloc_new w (.cells #[.slice A n c] 28);have hr:=heap_alloc_new (w.alloc (.cells #[.slice A n c] 28)) xb0.obj;rw[World.size_alloc] at hr;have hq2:=(((Below.refl (w.heap.size+1) (w.alloc (.cells #[.slice A n c] 28))).alloc (by simp) xb0.obj).block w.heap.size (by omega)).trans hq;obtain⟨W7,hW7⟩:∃W:World,W=((w.alloc (.cells #[.slice A n c] 28)).alloc xb0.obj):=⟨_,rfl⟩;rw[←hW7] at b2 hq2 hr;have hI:∀u12 u14:Value,OfI w A c n l 0 false false undef undef u12 u14 W7.drew:=fun u12 u14=>⟨zaa b2 1,hq2,hr,fun e=>(by cases e),fun e=>(by cases e),fun e=>(by cases e),fun e=>absurd e (by omega),fun e=>absurd e (by omega)⟩;have HIN:=Hh hI;have HW7:=Hh hW7;have HN:=Hh h;have HNL:=Hh hn;have HG:=Hh hg;have t1:((n:Int)==0)=false:=beq_eq_false_iff_ne.2 (by omega);clear h hn hg b1 b2 hq hr hq2 hW7 hI;dsimp only[xb0,bw0,Xb.obj,List.length_nil] at HW7;go_enter Tryz.func122,Tryz.ntmps122;go_wp2_with fail;rw[←HW7.out];go_cut [4,5] from 11 to 14 (fun s4 s5 wx=>BoC w l n s4 s5 wx)
 case first =>
  have hI0:=HIN.out;refine zbI ?_;refine wp_region_held (S:=fun w'=>w'.cell? ⟨w.heap.size,0,none⟩=some (.slice A n c)) (by kernel_rfl) ?_;have hs0:=zab (HIN.out undef undef).x;have hIN:=HIN.out undef undef;obtain⟨W8,hW8⟩:∃W:World,W=W7.drew:=⟨_,rfl⟩;rw[←hW8] at hs0 hIN;change wpAnyH _ _ _ _ _ _ _ _ W7.drew;rw[←hW8];clear hW8 hI0;refine wpAnyH_take (i:=0) (v:=.agg #[.slice A n c]) rfl (by kernel_rfl) (by kernel_rfl) (by kernel_rfl) (fun _ _ _ h=>h) (Or.inl ⟨by rfl,?_⟩) hs0 ?_
  ·intro w' s1_;go_simp
  simp only[Act.put,List.setIfInBounds_toArray,List.set_cons_zero,List.set_cons_succ];refine wpAnyH_take (i:=2) (v:=.agg #[.slice A n c]) rfl (by kernel_rfl) (by kernel_rfl) (by kernel_rfl) (fun _ _ _ h=>h) (Or.inl ⟨by rfl,?_⟩) hs0 ?_
  ·intro w' s1_;go_simp
  simp only[Act.put,List.setIfInBounds_toArray,List.set_cons_zero,List.set_cons_succ];refine zgx (T:=Nat × Bool × Bool) (fun x=>(2-x.1)+(if x.2.1 then 0 else 1)+(if x.2.2 then 0 else 1)) (fun x=>#[true,decide (1≤x.1),true,decide (2≤x.1),x.2.1,x.2.2,false,false]) (fun x=>(2-x.1)+(if x.2.1 then 0 else 1)+(if x.2.2 then 0 else 1)+2) (fun x a W=>x.1≤2∧∃v4 v5 t12 t14,a={ tmps:=#[.agg #[.slice A n c],.pointer (some ⟨w.heap.size,0,none⟩),.pointer (some ⟨w.heap.size+1,0,none⟩),.bool false,v4,v5,.pointer (some ⟨w.heap.size,0,none⟩),.slice A n c,.int .i64 (n:Int),.bool false,undef,.agg #[.slice A n c],t12,.agg #[.slice A n c],t14,undef,undef,undef,undef,undef,undef,undef,undef,undef],defers:=[] }∧OfI w A c n l x.1 x.2.1 x.2.2 v4 v5 t12 t14 W) ?_ (0,false,false) _ _ (by kernel_rfl) (by kernel_rfl) _ _ ⟨by decide,undef,undef,undef,undef,rfl,hIN⟩;rintro⟨j,p,q⟩ IH a W ⟨hj,v4,v5,t12,t14,rfl,hI⟩;clear hs0 hIN;dsimp only at hj hI ⊢;obtain rfl|rfl|rfl:j=0∨j=1∨j=2:=by omega
  ·cases p
   ·cases q
    ·refine wpAnyH_ready (rs:=[1,4,5]) (by kernel_rfl) (by simp) (AllReadyH.cons rfl (fun K hK=>?_) (AllReadyH.cons rfl (fun K hK=>?_) (AllReadyH.cons rfl (fun K hK=>?_) (AllReadyH.nil))))
     ·go_simp;refine(zfs n c A l _ (HN.out.below hI.b) HNL.out h0 hn9 HG.out).mono ?_;rintro e w2 hr;have hr2:=hr;obtain⟨u,v,X,Y,rfl,-⟩:=hr2;have hN:=hI.call1 hr;dsimp only;refine hK.out _ _ (zab hN.x) (fun _=>?_);exact IH (1,false,false) _ _ (by decide) (by kernel_rfl) (by kernel_rfl) _ _ ⟨by decide,_,_,_,_,rfl,hN⟩
     ·go_simp;refine hK.out _ _ (zab hI.allocP.x) (fun _=>?_);exact IH (0,true,false) _ _ (by decide) (by kernel_rfl) (by kernel_rfl) _ _ ⟨by decide,_,_,_,_,rfl,hI.allocP⟩
     ·go_simp;refine hK.out _ _ (zab hI.allocQ.x) (fun _=>?_);exact IH (0,false,true) _ _ (by decide) (by kernel_rfl) (by kernel_rfl) _ _ ⟨by decide,_,_,_,_,rfl,hI.allocQ⟩
    ·refine Rd2 1 4 (fun K hK=>?_) fun K hK=>?_
     ·go_simp;refine(zfs n c A l _ (HN.out.below hI.b) HNL.out h0 hn9 HG.out).mono ?_;rintro e w2 hr;have hr2:=hr;obtain⟨u,v,X,Y,rfl,-⟩:=hr2;have hN:=hI.call1 hr;dsimp only;refine hK.out _ _ (zab hN.x) (fun _=>?_);exact IH (1,false,true) _ _ (by decide) (by kernel_rfl) (by kernel_rfl) _ _ ⟨by decide,_,_,_,_,rfl,hN⟩
     ·go_simp;refine hK.out _ _ (zab hI.allocP.x) (fun _=>?_);exact IH (0,true,true) _ _ (by decide) (by kernel_rfl) (by kernel_rfl) _ _ ⟨by decide,_,_,_,_,rfl,hI.allocP⟩
   ·cases q
    ·refine Rd2 1 5 (fun K hK=>?_) fun K hK=>?_
     ·go_simp;refine(zfs n c A l _ (HN.out.below hI.b) HNL.out h0 hn9 HG.out).mono ?_;rintro e w2 hr;have hr2:=hr;obtain⟨u,v,X,Y,rfl,-⟩:=hr2;have hN:=hI.call1 hr;dsimp only;refine hK.out _ _ (zab hN.x) (fun _=>?_);exact IH (1,true,false) _ _ (by decide) (by kernel_rfl) (by kernel_rfl) _ _ ⟨by decide,_,_,_,_,rfl,hN⟩
     ·go_simp;refine hK.out _ _ (zab hI.allocQ.x) (fun _=>?_);exact IH (0,true,true) _ _ (by decide) (by kernel_rfl) (by kernel_rfl) _ _ ⟨by decide,_,_,_,_,rfl,hI.allocQ⟩
    ·refine Rd1 1 fun K hK=>?_
     ·go_simp;refine(zfs n c A l _ (HN.out.below hI.b) HNL.out h0 hn9 HG.out).mono ?_;rintro e w2 hr;have hr2:=hr;obtain⟨u,v,X,Y,rfl,-⟩:=hr2;have hN:=hI.call1 hr;dsimp only;refine hK.out _ _ (zab hN.x) (fun _=>?_);exact IH (1,true,true) _ _ (by decide) (by kernel_rfl) (by kernel_rfl) _ _ ⟨by decide,_,_,_,_,rfl,hN⟩
  ·cases p
   ·cases q
    ·refine wpAnyH_ready (rs:=[3,4,5]) (by kernel_rfl) (by simp) (AllReadyH.cons rfl (fun K hK=>?_) (AllReadyH.cons rfl (fun K hK=>?_) (AllReadyH.cons rfl (fun K hK=>?_) (AllReadyH.nil))))
     ·go_simp;refine(zft n c A l _ (HN.out.below hI.b) HNL.out h0 hn9 HG.out).mono ?_;rintro e w2 hr;have hr2:=hr;obtain⟨u,v,X,Y,rfl,-⟩:=hr2;have hN:=hI.call2 hr;dsimp only;refine hK.out _ _ (zab hN.x) (fun _=>?_);exact IH (2,false,false) _ _ (by decide) (by kernel_rfl) (by kernel_rfl) _ _ ⟨by decide,_,_,_,_,rfl,hN⟩
     ·go_simp;refine hK.out _ _ (zab hI.allocP.x) (fun _=>?_);exact IH (1,true,false) _ _ (by decide) (by kernel_rfl) (by kernel_rfl) _ _ ⟨by decide,_,_,_,_,rfl,hI.allocP⟩
     ·go_simp;refine hK.out _ _ (zab hI.allocQ.x) (fun _=>?_);exact IH (1,false,true) _ _ (by decide) (by kernel_rfl) (by kernel_rfl) _ _ ⟨by decide,_,_,_,_,rfl,hI.allocQ⟩
    ·refine Rd2 3 4 (fun K hK=>?_) fun K hK=>?_
     ·go_simp;refine(zft n c A l _ (HN.out.below hI.b) HNL.out h0 hn9 HG.out).mono ?_;rintro e w2 hr;have hr2:=hr;obtain⟨u,v,X,Y,rfl,-⟩:=hr2;have hN:=hI.call2 hr;dsimp only;refine hK.out _ _ (zab hN.x) (fun _=>?_);exact IH (2,false,true) _ _ (by decide) (by kernel_rfl) (by kernel_rfl) _ _ ⟨by decide,_,_,_,_,rfl,hN⟩
     ·go_simp;refine hK.out _ _ (zab hI.allocP.x) (fun _=>?_);exact IH (1,true,true) _ _ (by decide) (by kernel_rfl) (by kernel_rfl) _ _ ⟨by decide,_,_,_,_,rfl,hI.allocP⟩
   ·cases q
    ·refine Rd2 3 5 (fun K hK=>?_) fun K hK=>?_
     ·go_simp;refine(zft n c A l _ (HN.out.below hI.b) HNL.out h0 hn9 HG.out).mono ?_;rintro e w2 hr;have hr2:=hr;obtain⟨u,v,X,Y,rfl,-⟩:=hr2;have hN:=hI.call2 hr;dsimp only;refine hK.out _ _ (zab hN.x) (fun _=>?_);exact IH (2,true,false) _ _ (by decide) (by kernel_rfl) (by kernel_rfl) _ _ ⟨by decide,_,_,_,_,rfl,hN⟩
     ·go_simp;refine hK.out _ _ (zab hI.allocQ.x) (fun _=>?_);exact IH (1,true,true) _ _ (by decide) (by kernel_rfl) (by kernel_rfl) _ _ ⟨by decide,_,_,_,_,rfl,hI.allocQ⟩
    ·refine Rd1 3 fun K hK=>?_
     ·go_simp;refine(zft n c A l _ (HN.out.below hI.b) HNL.out h0 hn9 HG.out).mono ?_;rintro e w2 hr;have hr2:=hr;obtain⟨u,v,X,Y,rfl,-⟩:=hr2;have hN:=hI.call2 hr;dsimp only;refine hK.out _ _ (zab hN.x) (fun _=>?_);exact IH (2,true,true) _ _ (by decide) (by kernel_rfl) (by kernel_rfl) _ _ ⟨by decide,_,_,_,_,rfl,hN⟩
  ·cases p
   ·cases q
    ·refine Rd2 4 5 (fun K hK=>?_) fun K hK=>?_
     ·go_simp;refine hK.out _ _ (zab hI.allocP.x) (fun _=>?_);exact IH (2,true,false) _ _ (by decide) (by kernel_rfl) (by kernel_rfl) _ _ ⟨by decide,_,_,_,_,rfl,hI.allocP⟩
     ·go_simp;refine hK.out _ _ (zab hI.allocQ.x) (fun _=>?_);exact IH (2,false,true) _ _ (by decide) (by kernel_rfl) (by kernel_rfl) _ _ ⟨by decide,_,_,_,_,rfl,hI.allocQ⟩
    ·refine Rd1 4 fun K hK=>?_
     ·go_simp;refine hK.out _ _ (zab hI.allocP.x) (fun _=>?_);exact IH (2,true,true) _ _ (by decide) (by kernel_rfl) (by kernel_rfl) _ _ ⟨by decide,_,_,_,_,rfl,hI.allocP⟩
   ·cases q
    ·refine Rd1 5 fun K hK=>?_
     ·go_simp;refine hK.out _ _ (zab hI.allocQ.x) (fun _=>?_);exact IH (2,true,true) _ _ (by decide) (by kernel_rfl) (by kernel_rfl) _ _ ⟨by decide,_,_,_,_,rfl,hI.allocQ⟩
    ·have hS:=zab hI.x;obtain⟨g4,g5,u,v,x,y,rfl,rfl,rfl,rfl,m1,m2,m3,m4,z4,z5,hC⟩:=hI.last;have HC:=Hh hC;have HS:=Hh hS;have Z5:=Hh z5;obtain⟨d0,d1,d2,d3,f0,f1,f2,f3⟩:=zaj z4;clear hI hC hS IH z4 z5;refine Rd1 6 fun K hK=>?_;go_simp;have hS2:=(World.cell?_of_block (w:=W) (a:=⟨w.heap.size,0,none⟩) (zcF m3 u v)).trans HS.out;refine hK.out _ _ hS2 (fun _=>?_);clear hK K d0 d1 d2 d3 f0 f1 f2 f3;obtain⟨d0,d1,d2,d3,f0,f1,f2,f3⟩:=zaj Z5.out;change wpAnyH _ _ _ _ _ _ _ _ (put2 W g4 u v);generalize put2 W g4 u v=W9 at *;refine Rd1 7 fun K hK=>?_;go_simp;have hS3:=(World.cell?_of_block (w:=W9) (a:=⟨w.heap.size,0,none⟩) (zcF m4 x y)).trans hS2;refine hK.out _ _ hS3 (fun _=>?_);clear hK K d0 d1 d2 d3 f0 f1 f2 f3 hS2 hS3;refine wpAnyH_done (by kernel_rfl) ?_ _;unfold zcm;go_wp2_with fail;go_meet;exact HC.out
 case rest =>
  obtain⟨g4,g5,u,v,x,y,X,Y,Z,T,rfl,rfl,k4,k5,ru,rv,rx,ry,se,sf,hb,hr,hg4,hg5⟩:=hcut;have hd:Below wc.heap.size wc (wc.drewN 1):=zaa (Below.refl _ _) 1;have RU:=Hh (ru.next hd);have RV:=Hh (rv.next hd);have RX:=Hh (rx.next hd);have RY:=Hh (ry.next hd);have SE:=Hh se;have SF:=Hh sf;have K4:=Hh k4;have K5:=Hh k5;have HB:=Hh hb;have HR:=Hh hr;have m9:=zbE (show 1328≤1329 by omega);have lw:=Hh (show(-p2 1329≤X∧X≤p2 1329)∧-p2 1329≤Y∧Y≤p2 1329 by have:=se.low HG.out HNL.out h0;omega);have lh:=Hh (show(-p2 1329≤Z∧Z≤p2 1329)∧-p2 1329≤T∧T≤p2 1329 by have:=sf.low HG.out HNL.out h0;omega);clear m9;obtain⟨d0,d1,d2,d3,-⟩:=zaj k4;obtain⟨e0,e1,e2,e3,-⟩:=zaj k5;have q0:True:=trivial;clear ru rv rx ry se sf hb hr k4 k5 hd;go_wp2_with fail;refine wp_region_noPanic ?_;refine wp_region_held (S:=fun w'=>w'.cell? ⟨g4,0,none⟩=some (.bool u.s)∧w'.cell? ⟨g4,1,none⟩=some (.slice u.a u.xs.length u.c)∧w'.cell? ⟨g4,2,none⟩=some (.bool v.s)∧w'.cell? ⟨g4,3,none⟩=some (.slice v.a v.xs.length v.c)∧w'.cell? ⟨g5,0,none⟩=some (.bool x.s)∧w'.cell? ⟨g5,1,none⟩=some (.slice x.a x.xs.length x.c)∧w'.cell? ⟨g5,2,none⟩=some (.bool y.s)∧w'.cell? ⟨g5,3,none⟩=some (.slice y.a y.xs.length y.c)) (by kernel_rfl) ?_;clear d0 d1 d2 d3 e0 e1 e2 e3;obtain⟨W0,hW0⟩:∃W0:World,W0=wc.drewN 1:=⟨_,rfl⟩;have HD0:=Hh (show Below wc.heap.size wc W0 by rw[hW0];exact zaa (Below.refl _ _) 1);change wpAnyH _ _ _ _ _ _ _ _ (wc.drewN 1);change W0=wc.drewN 1 at hW0;rw[←hW0] at RU RV RX RY ⊢;clear hW0;obtain⟨d0,d1,d2,d3,-⟩:=zaj ((HD0.out.block _ (zag K4.out)).trans K4.out);obtain⟨e0,e1,e2,e3,-⟩:=zaj ((HD0.out.block _ (zag K5.out)).trans K5.out);have hS0:=(And.intro d0 (And.intro d1 (And.intro d2 (And.intro d3 (And.intro e0 (And.intro e1 (And.intro e2 e3)))))));clear d0 d1 d2 d3 e0 e1 e2 e3;refine Tk1 (v:=?_) 0 hS0 ?_ ?_;rotate_left
  ·rintro w' ⟨_,_,_,_,_,_,_,_⟩;go_simp;first|done|with_reducible rfl|rfl
  simp only[Act.put,LA];refine Tk1 (v:=?_) 1 hS0 ?_ ?_;rotate_left
  ·rintro w' ⟨_,_,_,_,_,_,_,_⟩;go_simp;first|done|with_reducible rfl|rfl
  simp only[Act.put,LA];refine Tk1 (v:=?_) 2 hS0 ?_ ?_;rotate_left
  ·rintro w' ⟨_,_,_,_,_,_,_,_⟩;go_simp;first|done|with_reducible rfl|rfl
  simp only[Act.put,LA];refine Tk1 (v:=?_) 3 hS0 ?_ ?_;rotate_left
  ·rintro w' ⟨_,_,_,_,_,_,_,_⟩;go_simp;first|done|with_reducible rfl|rfl
  simp only[Act.put,LA];refine Tk1 (v:=?_) 4 hS0 ?_ ?_;rotate_left
  ·rintro w' ⟨_,_,_,_,_,_,_,_⟩;go_simp;first|done|with_reducible rfl|rfl
  simp only[Act.put,LA];refine Tk1 (v:=?_) 6 hS0 ?_ ?_;rotate_left
  ·rintro w' ⟨_,_,_,_,_,_,_,_⟩;go_simp;first|done|with_reducible rfl|rfl
  simp only[Act.put,LA];refine Rd1 5 fun K hK=>?_;go_simp;refine(zof u v X Y _ RU.out RV.out lw.out.1 lw.out.2).mono ?_;rintro e w1 hr1;obtain⟨s,rfl,rs,b1⟩:=zaD hr1;dsimp only;have RS:=Hh rs;have RX:=Hh (RX.out.next b1);have RY:=Hh (RY.out.next b1);have RU:=Hh (RU.out.next b1);have RV:=Hh (RV.out.next b1);have B1:=Hh (HD0.out.trans (b1.mono HD0.out.size));obtain⟨d0,d1,d2,d3,-⟩:=zaj ((B1.out.block _ (zag K4.out)).trans K4.out);obtain⟨e0,e1,e2,e3,-⟩:=zaj ((B1.out.block _ (zag K5.out)).trans K5.out);have hS1:=(And.intro d0 (And.intro d1 (And.intro d2 (And.intro d3 (And.intro e0 (And.intro e1 (And.intro e2 e3)))))));refine hK.out _ _ hS1 (fun _=>?_);clear hK K hr1 rs b1 d0 d1 d2 d3 e0 e1 e2 e3;refine Rd1 7 fun K hK=>?_;go_simp;refine(zof x y Z T _ RX.out RY.out lh.out.1 lh.out.2).mono ?_;rintro e w2 hr2;obtain⟨t,rfl,rt,b2⟩:=zaD hr2;dsimp only;have RT:=Hh rt;have RS:=Hh (RS.out.next b2);have RX:=Hh (RX.out.next b2);have RU:=Hh (RU.out.next b2);have B2:=Hh (B1.out.trans (b2.mono B1.out.size));obtain⟨d0,d1,d2,d3,-⟩:=zaj ((B2.out.block _ (zag K4.out)).trans K4.out);obtain⟨e0,e1,e2,e3,-⟩:=zaj ((B2.out.block _ (zag K5.out)).trans K5.out);have hS2:=(And.intro d0 (And.intro d1 (And.intro d2 (And.intro d3 (And.intro e0 (And.intro e1 (And.intro e2 e3)))))));refine hK.out _ _ hS2 (fun _=>?_);clear hK K hr2 rt b2 d0 d1 d2 d3 e0 e1 e2 e3;refine Tk1 (v:=?_) 8 hS2 ?_ ?_;rotate_left
  ·rintro w' ⟨_,_,_,_,_,_,_,_⟩;go_simp;first|done|with_reducible rfl|rfl
  simp only[Act.put,LA];have R9:=Hh ((B2.out.block _ (zag HR.out)).trans HR.out);obtain⟨z0,z1,z2,z3,z4,z5,z6,z7⟩:=Xb.cells R9.out;obtain⟨y0,y1,y2,y3,y4,y5,y6,y7⟩:=Xb.cellsF R9.out;refine Rd1 9 fun K hK=>?_;go_simp;have k4:=(zhO (W:=w2) (g:=w.heap.size+1) (show g4≠w.heap.size+1 by omega) ⟨u,x,s,t⟩).trans ((B2.out.block _ (zag K4.out)).trans K4.out);have k5:=(zhO (W:=w2) (g:=w.heap.size+1) (show g5≠w.heap.size+1 by omega) ⟨u,x,s,t⟩).trans ((B2.out.block _ (zag K5.out)).trans K5.out);obtain⟨d0,d1,d2,d3,-⟩:=zaj k4;obtain⟨e0,e1,e2,e3,-⟩:=zaj k5;have hS3:=(And.intro d0 (And.intro d1 (And.intro d2 (And.intro d3 (And.intro e0 (And.intro e1 (And.intro e2 e3)))))));refine hK.out _ _ hS3 (fun _=>?_);clear hK K d0 d1 d2 d3 e0 e1 e2 e3 z0 z1 z2 z3 z4 z5 z6 z7 y0 y1 y2 y3 y4 y5 y6 y7 k4 k5;change wpAnyH _ _ _ _ _ _ _ _ (putX w2 (w.heap.size+1) ⟨u,x,s,t⟩);have RF:=Hh (zsJ R9.out ⟨u,x,s,t⟩);have HX:=Hh (show Xb.R ⟨u,x,s,t⟩ (putX w2 (w.heap.size+1) ⟨u,x,s,t⟩) X Z (Y-X+1) (T-Z+1) from⟨RU.out.putX R9.out _,RX.out.putX R9.out _,RS.out.putX R9.out _,RT.out.putX R9.out _⟩);have BF:=Hh (zmn (HB.out.trans (B2.out.mono HB.out.size)) (g:=w.heap.size+1) (Nat.le_succ _) ⟨u,x,s,t⟩);generalize putX w2 (w.heap.size+1) ⟨u,x,s,t⟩=W9 at *;refine Tk1 (v:=?_) 10 hS3 ?_ ?_;rotate_left
  ·rintro w' ⟨_,_,_,_,_,_,_,_⟩;go_simp;first|done|with_reducible rfl|rfl
  simp only[Act.put,LA];refine wpAnyH_done (by kernel_rfl) ?_ _;refine NoPanic.normal ?_;go_wp2_with fail;obtain⟨z0,z1,z2,z3,z4,z5,z6,z7⟩:=Xb.cells RF.out;refine bodyPost_ret (v:=.tuple #[(⟨u,x,s,t⟩:Xb).val,.bool true]) (by simp[results,Tryz.results122,go_sem,z0,z1,z2,z3,z4,z5,z6,z7]) rfl ?_;have sh:∀{b:Bw} {V:Int} {W:World},b.R W V→-p2 1330≤V→V≤p2 1330→b.xs.length≤50000:=fun r h1 h2=>Nat.le_trans (zaR r h1 h2) (by omega);have hp:p2 1330=p2 1329+p2 1329:=zau 1329;have hp1:=zay 1329;have bt:=zqI SE.out SF.out;have l1:=SE.out.low HG.out HNL.out h0;have l2:=SF.out.low HG.out HNL.out h0;have hp2:p2 1329=p2 1328+p2 1328:=zau 1328;have hp3:=zay 1328;refine⟨⟨u,x,s,t⟩,X,Z,Y-X+1,T-Z+1,true,rfl,HX.out,⟨sh HX.out.x (by omega) (by omega),sh HX.out.y (by omega) (by omega),sh HX.out.w (by omega) (by omega),sh HX.out.h (by omega) (by omega)⟩,BF.out,.inr ⟨h0,rfl,bt⟩⟩
theorem zor (n c:Nat)(A:Option Addr)(l:List Nd)(w:World)(h:Ns w A c l)(hn:l.length=n)(hn9:n≤900000)(hg:zaw l) :
  Calls Tryz.prog 122 #[.agg #[.slice A n c]] w (zsH l n w):=by
 by_cases h0:0<n
 ·exact zqK n c A l w h hn h0 hn9 hg
 ·have e0:n=0:=by omega
  subst e0;have e1:l=[]:=List.length_eq_zero_iff.1 hn;subst e1;exact zqJ A c w
def BxV (l:List Nd)(n:Nat)(ok:Bool)(X Y V H:Int):Prop:=(n=0∧ok=false∧X=0∧Y=0∧V=0∧H=0)∨(0<n∧ok=true∧BoxT (den l n) (at_ l (n-1)).lv.toNat X Y V H)
theorem BxV.one {l:List Nd}{n:Nat}{ok ok':Bool}{X Y V H X' Y' V' H':Int}(h:BxV l n ok X Y V H)(k:BxV l n ok' X' Y' V' H'):ok=ok'∧X=X'∧Y=Y'∧V=V'∧H=H':=by
 rcases h with⟨h0,rfl,h1,h2,h3,h4⟩|⟨h0,rfl,h1⟩
 ·rcases k with⟨k0,rfl,k1,k2,k3,k4⟩|⟨k0,rfl,k1⟩
  ·exact⟨rfl,by omega,by omega,by omega,by omega⟩
  ·omega
 ·rcases k with⟨k0,rfl,k1,k2,k3,k4⟩|⟨k0,rfl,k1⟩
  ·omega
  ·exact⟨rfl,h1.one k1⟩
def zuK (l:List Nd)(n:Nat)(most:Int)(w:World)(e:Ending)(w':World):Prop :=
 ∃(X Y V H:Int) (ok:Bool),e=.returned (.bool (decide (V≤most)&&decide (H≤most)))∧BxV l n ok X Y V H∧Below w.heap.size w w'
theorem zos (a b:Int):decide (ordI a b≤0)=decide (a≤b):=by
 refine decide_eq_decide.2 ?_;unfold ordI;split
 ·constructor <;> intro <;> omega
 ·split
  ·constructor <;> intro <;> omega
  ·constructor <;> intro <;> omega
theorem zct (n c:Nat)(A:Option Addr)(l:List Nd)(most:Int)(w:World)(h:Ns w A c l)(hn:l.length=n)(hn9:n≤900000)(hg:zaw l)(hm : -9223372036854775808≤most∧most≤9223372036854775807) :
  Calls Tryz.prog 121 #[.agg #[.slice A n c],.int .i64 most] w (zuK l n most w):=by
 have hcap:=h.cap;rw[hn] at hcap;have hB:=(Below.refl w.heap.size w).alloc (Nat.le_refl _) (.cells #[.slice A n c] 28);have HB:=Hh hB;have HN:=Hh (h.below hB);have HNL:=Hh hn;have HG:=Hh hg;have q0:True:=trivial;clear h hn hg hB;go_enter Tryz.func121,Tryz.ntmps121;go_upto_region 3 with(first
  | (have _t:=q0;go_at_call 122;clear _t;go_loud (refine(zor n c A l _ HN.out HNL.out hn9 HG.out).mono ?_;rintro e w1 ⟨u,X,Y,V,H,ok,rfl,ru,su,b1,bv⟩;have RU:=Hh ru;have SU:=Hh su;have BV:=Hh (show BxV l n ok X Y V H from bv);have B1:=Hh (HB.out.trans (b1.mono HB.out.size));clear ru su b1 bv;have q1:=q0;clear q0))
  | (have _t:=q1;go_at_call 159;clear _t;go_loud (refine(zjo most _ hm.1 hm.2).mono ?_;rintro e w2 h2;obtain⟨o,rfl,ro,b2⟩:=zaD h2;have hb3:=(Below.refl w1.heap.size w1).alloc (Nat.le_refl _) u.obj;have hb4:=hb3.trans (b2.mono hb3.size);have hb5:=hb4.alloc hb4.size o.obj;have KX:=Hh (((b2.alloc b2.size o.obj).block w1.heap.size (by simp)).trans (heap_alloc_new w1 u.obj));have RU:=Hh (RU.out.next hb5);have RO:=Hh ro.box;have B2:=Hh (B1.out.trans (hb5.mono B1.out.size));clear h2 ro b2 hb3 hb4 hb5;have q2:=q1;clear q1)))
 obtain⟨c0,c1,c2,c3,c4,c5,c6,c7⟩:=Xb.cells KX.out;have o0:=RO.out.c0;have o1:=RO.out.c1;have lo:o.xs.length≤50:=zaR RO.out.r (by have:=zbE (show 64≤1330 by omega);have:p2 64=18446744073709551616:=rfl;omega) (by have:=zbE (show 64≤1330 by omega);have:p2 64=18446744073709551616:=rfl;omega);have lw:=SU.out.w;have lh:=SU.out.h;generalize hW:w2.alloc o.obj=W at *;obtain⟨g5,hg5⟩:∃g,g=w1.heap.size:=⟨_,rfl⟩;obtain⟨g7,hg7⟩:∃g,g=w2.heap.size:=⟨_,rfl⟩;rw[←hg5] at KX c0 c1 c2 c3 c4 c5 c6 c7 ⊢;rw[←hg7] at RO o0 o1 ⊢;clear hg5 hg7 hW;obtain⟨r1,hr1⟩:∃r,r=ordI V most:=⟨_,rfl⟩;obtain⟨r2,hr2⟩:∃r,r=ordI H most:=⟨_,rfl⟩;have e1:=zos V most;have e2:=zos H most;rw[←hr1] at e1;rw[←hr2] at e2;have HR1:=Hh hr1;have HR2:=Hh hr2;have HE1:=Hh e1;have HE2:=Hh e2;clear hr1 hr2 e1 e2 c0 c1 c2 c3;have CMP1:∀W1,Below W.heap.size W W1→Calls Tryz.prog 160 #[.agg #[.bool u.w.s,.slice u.w.a u.w.xs.length u.w.c],.agg #[.bool o.s,.slice o.a o.xs.length o.c]] W1 fun e w'=>e=.returned (.int .i64 r1)∧Below W1.heap.size W1 w':=fun W1 b=>by
  have h9:=zkx u.w.s o.s u.w.a o.a u.w.c o.c u.w.xs o.xs W1 (RU.out.w.us.below b) (RO.out.r.us.below b) (by omega) (by omega) RU.out.w.cn RO.out.r.cn
  rwa [RU.out.w.v,RO.out.r.v,←HR1.out] at h9
 have CMP2:∀W1,Below W.heap.size W W1→Calls Tryz.prog 160 #[.agg #[.bool u.h.s,.slice u.h.a u.h.xs.length u.h.c],.agg #[.bool o.s,.slice o.a o.xs.length o.c]] W1 fun e w'=>e=.returned (.int .i64 r2)∧Below W1.heap.size W1 w':=fun W1 b=>by
  have h9:=zkx u.h.s o.s u.h.a o.a u.h.c o.c u.h.xs o.xs W1 (RU.out.h.us.below b) (RO.out.r.us.below b) (by omega) (by omega) RU.out.h.cn RO.out.r.cn
  rwa [RU.out.h.v,RO.out.r.v,←HR2.out] at h9
 have HC1:=Hh CMP1;have HC2:=Hh CMP2;clear CMP1 CMP2;by_cases hV:V≤most
 ·have t1:decide (r1≤0)=true:=by rw[HE1.out];exact decide_eq_true hV
  have HV:=Hh hV;clear hV;go_wp2_with (first
   | (have _t:=q2;go_at_call 160;clear _t;go_loud (refine(HC1.out _ (Below.refl _ _)).mono ?_;rintro e w3 ⟨rfl,b3⟩;have B3:=Hh b3;have c6:=(b3.cell (p:=⟨g5,6,none⟩) (zag KX.out)).trans c6;have c7:=(b3.cell (p:=⟨g5,7,none⟩) (zag KX.out)).trans c7;have o0:=(b3.cell (p:=⟨g7,0,none⟩) RO.out.lt).trans o0;have o1:=(b3.cell (p:=⟨g7,1,none⟩) RO.out.lt).trans o1;clear b3;have q3:=q2;clear q2))
   | (have _t:=q3;go_at_call 160;clear _t;go_loud (refine(HC2.out _ B3.out).mono ?_;rintro e w4 ⟨rfl,b4⟩;have B4:=Hh (B3.out.trans (b4.mono B3.out.size));clear b4;have q4:=q3;clear q3)))
  go_ret;exact⟨X,Y,V,H,ok,by rw[decide_eq_true (show V≤most by have:=HV.out;omega),Bool.true_and];first|rfl|(rw[←HE2.out];rfl),BV.out,B2.out.trans (B4.out.mono B2.out.size)⟩
 ·have t1:decide (r1≤0)=false:=by rw[HE1.out];exact decide_eq_false hV
  have HV:=Hh hV;clear hV;go_wp2_with (first
   | (have _t:=q2;go_at_call 160;clear _t;go_loud (refine(HC1.out _ (Below.refl _ _)).mono ?_;rintro e w3 ⟨rfl,b3⟩;have B3:=Hh b3;clear b3;have q3:=q2;clear q2)))
  go_ret;exact⟨X,Y,V,H,ok,by rw[decide_eq_false (show ¬ V≤most by have:=HV.out;omega),Bool.false_and];rfl,BV.out,B2.out.trans (B3.out.mono B2.out.size)⟩
end Go.Proofs.YtfjajpnfjjdnpaaGreatDoor

namespace Go.Proofs.YtfjajpnfjjdnpaaGreatDoor
open Go.RowKit Num
def inI (x:Int):Bool:=decide (-9223372036854775808≤x∧x≤9223372036854775807)
def outI (x:Int):Int:=if inI x=true then x else 0
theorem zot {x:Int}(h : -9223372036854775808≤x∧x≤9223372036854775807):inI x=true∧outI x=x:=by
 have:inI x=true:=decide_eq_true h;exact⟨this,by unfold outI;rw[if_pos this]⟩
theorem zou {x:Int}(h:¬ (-9223372036854775808≤x∧x≤9223372036854775807)):inI x=false∧outI x=0:=by
 have:inI x=false:=decide_eq_false h;exact⟨this,by unfold outI;rw[this];rfl⟩
theorem zhP (n:Int)(w:World) :
  Calls Tryz.prog 209 #[.int .i64 n,.bool true] w fun e w'=>e=.returned (.tuple #[.int .i64 n,.bool true])∧w=w':=by
 go_enter Tryz.func209,Tryz.ntmps209;go_wp2;go_ret2;exact⟨rfl,rfl⟩
theorem zov (n:Int)(w:World) :
  Calls Tryz.prog 209 #[.int .i64 n,.bool false] w fun e w'=>e=.returned (.tuple #[.int .i64 0,.bool false])∧w=w':=by
 go_enter Tryz.func209,Tryz.ntmps209;go_wp2;go_ret2;exact⟨rfl,rfl⟩
theorem zld (v:Nat)(w:World) :
  Calls Tryz.prog 209 #[.int .i64 (wrap64 (v:Int)),.bool (decide ((v:Int)≤9223372036854775807))] w fun e w'=>e=.returned (.tuple #[.int .i64 (outI v),.bool (inI v)])∧w=w':=by
 by_cases h:(v:Int)≤9223372036854775807
 ·obtain⟨h1,h2⟩:=zot (x:=v) ⟨by omega,h⟩;rw[decide_eq_true h,h1,h2,IntWalk.wrap64_in _ ⟨by omega,h⟩];exact zhP _ w
 ·obtain⟨h1,h2⟩:=zou (x:=v) (by omega);rw[decide_eq_false h,h1,h2];exact zov _ w
theorem zle (v:Nat)(w:World) :
  Calls Tryz.prog 209 #[.int .i64 (wrap64 (-wrap64 (v:Int))),.bool (decide ((v:Int)≤9223372036854775808))] w fun e w'=>e=.returned (.tuple #[.int .i64 (outI (-v)),.bool (inI (-v))])∧w=w':=by
 by_cases h:(v:Int)≤9223372036854775808
 ·obtain⟨h1,h2⟩:=zot (x := -v) ⟨by omega,by omega⟩;have e:wrap64 (-wrap64 (v:Int)) = -v:=by unfold wrap64;omega
  rw[decide_eq_true h,h1,h2,e];exact zhP _ w
 ·obtain⟨h1,h2⟩:=zou (x := -v) (by omega);rw[decide_eq_false h,h1,h2];exact zov _ w
theorem zgg (a:Nat)(ha:a<4294967296):bits .or .u64 0 (a:Int)=(a:Int):=by
 have e:=u64_or_nat 0 a (by decide) (by omega);rw[Nat.zero_or] at e;exact e
theorem zmo (a b:Nat)(ha:a<4294967296)(hb:b<4294967296):bits .or .u64 (bits .or .u64 0 (a:Int)) ((b:Int)*4294967296)=((val [a,b]:Nat):Int):=by
 have e:=u64_or_nat a (b*4294967296) (by omega) (by omega);rw[zgg a ha,show((b:Int)*4294967296)=((b*4294967296:Nat):Int) by simp,e];rw[Nat.or_comm,nat_join 32 _ _ (by simp) ha];simp only[val];omega
theorem zqL (s:Bool)(A:Option Addr)(c:Nat)(a b:Nat)(w:World)(h:Us w A c [a,b]) :
  Calls Tryz.prog 163 #[.agg #[.bool s,.slice A 2 c]] w fun e w'=>e=.returned (.tuple #[.int .i64 (outI (ival s [a,b])),.bool (inI (ival s [a,b]))])∧Below w.heap.size w w':=by
 obtain⟨hX,hB⟩:=box1 w (.bool s) (.slice A 2 c) 48;have h1:=h.below hB;obtain⟨g,off,rfl,hg,hc⟩:=h1.at_ (by simp)
 have c0:=hc 0 (by simp);have c1:=hc 1 (by simp);simp only[List.getElem?_cons_zero,List.getElem?_cons_succ,Option.getD_some,Nat.add_zero] at c0 c1;have ha:=h.1.head;have hb:=h.1.tail.head;have HB:=Hh hB;clear hc h h1 hX hB;unfold ival;have HE:=Hh (zmo a b ha hb);generalize val [a,b]=v at *;go_enter Tryz.func163,Tryz.ntmps163;go_wp2_with fail;refine wp_loop_rounds 3 ?_;rw[rounds_succ];go_wp2_with fail;rw[rounds_succ];go_wp2_with fail;rw[rounds_succ];cases s
 ·go_wp2_with (go_at_call 209;rw[HE.out];refine(zld v _).mono ?_;rintro e w' ⟨rfl,rfl⟩);go_ret2;exact⟨rfl,HB.out⟩
 ·go_wp2_with (go_at_call 209;rw[HE.out];refine(zle v _).mono ?_;rintro e w' ⟨rfl,rfl⟩);go_ret2;exact⟨rfl,HB.out⟩
theorem zqM (s:Bool)(A:Option Addr)(c:Nat)(a:Nat)(w:World)(h:Us w A c [a]) :
  Calls Tryz.prog 163 #[.agg #[.bool s,.slice A 1 c]] w fun e w'=>e=.returned (.tuple #[.int .i64 (outI (ival s [a])),.bool (inI (ival s [a]))])∧Below w.heap.size w w':=by
 obtain⟨hX,hB⟩:=box1 w (.bool s) (.slice A 1 c) 48;have h1:=h.below hB;obtain⟨g,off,rfl,hg,hc⟩:=h1.at_ (by simp)
 have c0:=hc 0 (by simp);simp only[List.getElem?_cons_zero,List.getElem?_cons_succ,Option.getD_some,Nat.add_zero] at c0;have ha:=h.1.head;have HB:=Hh hB;clear hc h h1 hX hB;have ev:val [a]=a:=by simp[val]
 unfold ival;rw[ev];have HE:=Hh (zgg a ha);clear ev;go_enter Tryz.func163,Tryz.ntmps163;go_wp2_with fail;refine wp_loop_rounds 2 ?_;rw[rounds_succ];go_wp2_with fail;rw[rounds_succ];cases s
 ·go_wp2_with (go_at_call 209;rw[HE.out];refine(zld a _).mono ?_;rintro e w' ⟨rfl,rfl⟩);go_ret2;exact⟨rfl,HB.out⟩
 ·go_wp2_with (go_at_call 209;rw[HE.out];refine(zle a _).mono ?_;rintro e w' ⟨rfl,rfl⟩);go_ret2;exact⟨rfl,HB.out⟩
theorem zow (s:Bool)(A:Option Addr)(c:Nat)(w:World) :
  Calls Tryz.prog 163 #[.agg #[.bool s,.slice A 0 c]] w fun e w'=>e=.returned (.tuple #[.int .i64 (outI 0),.bool (inI 0)])∧Below w.heap.size w w':=by
 obtain⟨hX,hB⟩:=box1 w (.bool s) (.slice A 0 c) 48;have HB:=Hh hB;clear hX hB;go_enter Tryz.func163,Tryz.ntmps163;go_wp2_with fail;refine wp_loop_rounds 1 ?_;rw[rounds_succ];cases s
 all_goals
  go_wp2_with (go_at_call 209;refine(zhP 0 _).mono ?_;rintro e w' ⟨rfl,rfl⟩);go_ret2;exact⟨rfl,HB.out⟩
theorem zox (s:Bool)(A:Option Addr)(c n:Nat)(w:World)(hn:2<n)(hc:n≤9223372036854775807) :
  Calls Tryz.prog 163 #[.agg #[.bool s,.slice A n c]] w fun e w'=>e=.returned (.tuple #[.int .i64 0,.bool false])∧Below w.heap.size w w':=by
 obtain⟨hX,hB⟩:=box1 w (.bool s) (.slice A n c) 48;have HB:=Hh hB;clear hX hB;go_enter Tryz.func163,Tryz.ntmps163;go_wp2_with fail;go_ret2;exact⟨rfl,HB.out⟩
theorem zlf (s:Bool)(A:Option Addr)(c:Nat)(xs:List Nat)(w:World)(h:Us w A c xs)(hc:zaG xs) :
  Calls Tryz.prog 163 #[.agg #[.bool s,.slice A xs.length c]] w fun e w'=>e=.returned (.tuple #[.int .i64 (outI (ival s xs)),.bool (inI (ival s xs))])∧Below w.heap.size w w':=by
 rcases xs with _|⟨a,_|⟨b,_|⟨d,r⟩⟩⟩
 ·rw[zfe];exact zow s A c w
 ·exact zqM s A c a w h
 ·exact zqL s A c a b w h
 ·have hge:=zfa hc (by simp);have h2:(4294967296:Nat)^2≤4294967296^((a :: b :: d :: r).length-1):=Nat.pow_le_pow_right (by decide) (by simp);have hv:=zfi s (a :: b :: d :: r);obtain⟨h1,h2⟩:=zou (x:=ival s (a :: b :: d :: r)) (by omega);rw[h1,h2];exact zox s A c _ w (by simp) (by have:=h.cap;omega)
end Go.Proofs.YtfjajpnfjjdnpaaGreatDoor

namespace Go.Proofs.YtfjajpnfjjdnpaaGreatDoor
open Nds Num
def Cv.cn (v:Cv):Cl:=⟨(val v.xs:Nat),(val v.ys:Nat),v.st⟩
end Go.Proofs.YtfjajpnfjjdnpaaGreatDoor
