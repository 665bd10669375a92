import Derived.Test.YtikehjindobpkaaGreatGLkGw

set_option linter.unusedVariables false
set_option linter.unusedSimpArgs false
set_option maxRecDepth 100000
set_option maxHeartbeats 6400000
namespace Go.Proofs.YtikehjindobpkaaGreat
open Go.RowKit Nds
theorem zbc.cells {w:World}{g:Nat}{x:Nd}(h:zbc w g x):w.cell? ⟨g,0,none⟩=some (.int .i64 x.lv)∧w.cell? ⟨g,1,none⟩=some (.int .i64 x.a)∧w.cell? ⟨g,2,none⟩=some (.int .i64 x.b)∧w.cell? ⟨g,3,none⟩=some (.int .i64 x.c)∧w.cell? ⟨g,4,none⟩=some (.int .i64 x.d):=h.at_
end Go.Proofs.YtikehjindobpkaaGreat

namespace Go.Proofs.YtikehjindobpkaaGreat
open Go.RowKit Num Nds
structure I2 (w:World)(g h:Nat)(s:Bool)(A:Option Addr)(c:Nat)(xs:List Nat)(X:Int)(t:Bool)(B:Option Addr)(d:Nat)(ys:List Nat)(Y:Int)(W:World):Prop where
 b:Below w.heap.size w W
 x:HX W g s A c xs X
 y:HX W h t B d ys Y
theorem I2.next {w:World}{g h:Nat}{s:Bool}{A:Option Addr}{c:Nat}{xs:List Nat}{X:Int}{t:Bool}{B:Option Addr}{d:Nat}{ys:List Nat}{Y:Int}{W W1:World}(k:I2 w g h s A c xs X t B d ys Y W)(q:Below W.heap.size W W1):I2 w g h s A c xs X t B d ys Y W1 :=
 ⟨k.b.trans (q.mono k.b.size),k.x.next q,k.y.next q⟩
theorem I2.at_ {w:World}{g h:Nat}{s:Bool}{A:Option Addr}{c:Nat}{xs:List Nat}{X:Int}{t:Bool}{B:Option Addr}{d:Nat}{ys:List Nat}{Y:Int}{W:World}(k:I2 w g h s A c xs X t B d ys Y W) :
  W.cell? ⟨g,0,none⟩=some (.bool s)∧W.cell? ⟨g,1,none⟩=some (.slice A xs.length c)∧W.cell? ⟨h,0,none⟩=some (.bool t)∧W.cell? ⟨h,1,none⟩=some (.slice B ys.length d):=⟨k.x.c0,k.x.c1,k.y.c0,k.y.c1⟩
def inM (X:Int)(m:Nat):Bool:=decide (-p2 m≤X)&&decide (X<p2 m)
theorem ziP (X:Int)(m:Nat):inM X m=true↔rcI X≤m:=by
 unfold inM;rw[zjH,Bool.and_eq_true,decide_eq_true_iff,decide_eq_true_iff]
theorem zte {w:World}{s:Bool}{A:Option Addr}{c:Nat}{xs:List Nat}{X:Int}(h:Us w A c xs)(hk:zaq s xs)(hv:ival s xs=X):HX (w.alloc (.cells #[.bool s,.slice A xs.length c] 31)) w.heap.size s A c xs X :=
 ⟨heap_alloc_new w _,h.below ((Below.refl _ w).alloc (Nat.le_refl _) _),hk,hv,fun hx a e=>by have:=zbw h hx a e;omega⟩
theorem zjJ (s:Bool)(A:Option Addr)(c:Nat)(xs:List Nat)(m:Nat)(w:World)(h:Us w A c xs)(hk:zaq s xs)(hl:xs.length≤50000)(hm:m≤1330) :
  Calls Tryz.prog 43 #[.agg #[.bool s,.slice A xs.length c],.int .i64 ((m:Int)+1)] w fun e w'=>e=.returned (.bool (inM (ival s xs) m))∧Below w.heap.size w w':=by
 have hcap:=h.cap;obtain⟨X,hX⟩:∃X,X=ival s xs:=⟨_,rfl⟩;rw[←hX];obtain⟨W,hW⟩:∃W:World,W=w.alloc (.cells #[.bool s,.slice A xs.length c] 31):=⟨_,rfl⟩;have hb:Below w.heap.size w W:=by rw[hW];exact(Below.refl _ w).alloc (Nat.le_refl _) _
 have hx0:HX W w.heap.size s A c xs X:=by rw[hW];exact zte h hk hX.symm
 have HW:=Hh hW;have HB:=Hh hb;have HX0:=Hh hx0;obtain⟨R,hR⟩:∃R,R=inM X m:=⟨_,rfl⟩;rw[←hR];obtain⟨ra,hra⟩:∃r,r=ordI X (-p2 m):=⟨_,rfl⟩;obtain⟨rb,hrb⟩:∃r,r=ordI X (p2 m):=⟨_,rfl⟩;have ea:decide (ra≥0)=decide (-p2 m≤X):=by rw[hra,zdB]
 have eb:decide (rb<0)=decide (X<p2 m):=by rw[hrb,zdA]
 have hR':R=(decide (ra≥0)&&decide (rb<0)):=by rw[hR,ea,eb];rfl
 have HR:=Hh hR';have HRA:=Hh hra;have HRB:=Hh hrb;have f0:IntKind.i64.wrap ((m:Int)+1-1)=(m:Int):=by rw[show(m:Int)+1-1=(m:Int) by omega];exact IntWalk.i64_in _ (by omega)
 have hmm:=zar (show m≤1330 by omega);have hpm:=zam m;have HPM:=Hh (show -p2 1330≤p2 m∧p2 m≤p2 1330∧-p2 1330 ≤ -p2 m∧-p2 m≤p2 1330 from⟨by omega,hmm,by omega,by omega⟩);obtain⟨gx,hgx⟩:∃g,g=w.heap.size:=⟨_,rfl⟩;have HGX:=Hh hgx;rw[←hgx] at HX0;clear h hk hW hb hx0 hR hra hrb ea eb hR' hmm hpm hX hgx;go_enter Tryz.func43,Tryz.ntmps43;go_wp2_with (go_at_call 44;go_loud (rw[←HW.out];refine(zaS _ _).mono ?_;rintro e w5 ⟨A5,c5,s5,r5,rfl,u5,k5,v5,b5⟩;rw[zbZ m (by omega)] at v5;have L5:=Hh (zbi k5 v5 HPM.out.1 HPM.out.2.1);have I5:=Hh (show I2 w gx w5.heap.size s A c xs X s5 A5 c5 r5 (p2 m) (w5.alloc (.cells #[.bool s5,.slice A5 r5.length c5] 31)).drew from I2.next (W:=w5.alloc (.cells #[.bool s5,.slice A5 r5.length c5] 31)) ⟨(HB.out.trans (b5.mono HB.out.size)).alloc (Nat.le_trans HB.out.size b5.size) _,(HX0.out.next b5).next ((Below.refl _ w5).alloc (Nat.le_refl _) _),zte u5 k5 v5⟩ (Below.drew' (Below.refl _ _)));clear u5 k5 v5 b5));rw[←HGX.out];obtain⟨gp,hgp⟩:∃g,g=w5.heap.size:=⟨_,rfl⟩;have hgp':=hgp;rw[←hgp] at I5;rw[←hgp];refine wp_region_noPanic ?_;refine wp_region_held (S:=fun w'=>w'.cell? ⟨gx,0,none⟩=some (.bool s)∧w'.cell? ⟨gx,1,none⟩=some (.slice A xs.length c)∧w'.cell? ⟨gp,0,none⟩=some (.bool s5)∧w'.cell? ⟨gp,1,none⟩=some (.slice A5 r5.length c5)) (by kernel_rfl) ?_;obtain⟨W0,hW0⟩:∃W0:World,W0=(w5.alloc (.cells #[.bool s5,.slice A5 r5.length c5] 31)).drew:=⟨_,rfl⟩;rw[←hW0] at I5;change wpAnyH _ _ _ _ _ _ _ _ (w5.alloc (.cells #[.bool s5,.slice A5 r5.length c5] 31)).drew;rw[←hW0];clear hW0 hgp hgp';have hS0:=I5.out.at_
 refine Tk1 (v:=?_) 0 hS0 ?_ ?_;rotate_left
 ·rintro w' ⟨s1,s2,s3,s4⟩;go_simp;first|done|with_reducible rfl|rfl
 simp only[Act.put,LA];refine Tk1 (v:=?_) 1 hS0 ?_ ?_;rotate_left
 ·rintro w' ⟨s1,s2,s3,s4⟩;go_simp;first|done|with_reducible rfl|rfl
 simp only[Act.put,LA];refine Rd1 2 fun K hK=>?_;go_simp;refine(zbI s5 A5 c5 r5 _ I5.out.y.us (by have:=L5.out;omega)).mono ?_;rintro e w6 ⟨A6,c6,s6,r6,rfl,u6,k6,v6,b6⟩;dsimp only;rw[I5.out.y.v] at v6;have I6:=Hh (I5.out.next b6);have U6:=Hh u6;have V6:=Hh v6;have L6:=Hh (zbi k6 v6 HPM.out.2.2.1 HPM.out.2.2.2);clear u6 k6 v6 b6;refine hK.out _ _ I6.out.at_ (fun hS1=>?_)
 clear hK K;refine Rd1 3 fun K hK=>?_;go_simp;refine(zae s s6 A A6 c c6 xs r6 _ I6.out.x.us U6.out (by omega) (by have:=L6.out;omega)).mono ?_;rintro e w7 ⟨rfl,b7⟩;dsimp only;rw[I6.out.x.v,V6.out,←HRA.out];have I7:=Hh (I6.out.next b7);clear b7;refine hK.out _ _ I7.out.at_ (fun hS2=>?_)
 clear hK K;by_cases ta:ra≥0
 ·have xa:decide (ra≥0)=true:=decide_eq_true ta;clear ta;refine Tk1 (v:=?_) 4 hS2 ?_ ?_;rotate_left
  ·rintro w' ⟨s1,s2,s3,s4⟩;go_simp;first|done|with_reducible rfl|rfl
  simp only[Act.put,LA];refine Tk1 (v:=?_) 5 hS2 ?_ ?_;rotate_left
  ·rintro w' ⟨s1,s2,s3,s4⟩;go_simp;first|done|with_reducible rfl|rfl
  simp only[Act.put,LA];refine Tk1 (v:=?_) 6 hS2 ?_ ?_;rotate_left
  ·rintro w' ⟨s1,s2,s3,s4⟩;go_simp;first|done|with_reducible rfl|rfl
  simp only[Act.put,LA];refine Tk1 (v:=?_) 7 hS2 ?_ ?_;rotate_left
  ·rintro w' ⟨s1,s2,s3,s4⟩;go_simp;first|done|with_reducible rfl|rfl
  simp only[Act.put,LA];refine Rd1 8 fun K hK=>?_;go_simp;refine(zae s s5 A A5 c c5 xs r5 _ I7.out.x.us I7.out.y.us (by omega) (by have:=L5.out;omega)).mono ?_;rintro e w8 ⟨rfl,b8⟩;dsimp only;rw[I7.out.x.v,I7.out.y.v,←HRB.out];have I8:=Hh (I7.out.next b8);clear b8;refine hK.out _ _ I8.out.at_ (fun hS3=>?_)
  clear hK K;refine Tk1 (v:=?_) 9 hS3 ?_ ?_;rotate_left
  ·rintro w' ⟨s1,s2,s3,s4⟩;go_simp;first|done|with_reducible rfl|rfl
  simp only[Act.put,LA];refine Tk1 (v:=?_) 10 hS3 ?_ ?_;rotate_left
  ·rintro w' ⟨s1,s2,s3,s4⟩;go_simp;first|done|with_reducible rfl|rfl
  simp only[Act.put,LA];refine Tk1 (v:=?_) 11 hS3 ?_ ?_;rotate_left
  ·rintro w' ⟨s1,s2,s3,s4⟩;go_simp;first|done|with_reducible rfl|rfl
  simp only[Act.put,LA];refine wpAnyH_done (by kernel_rfl) ?_ _;refine NoPanic.normal ?_;go_wp2_with fail;go_ret;refine⟨?_,I8.out.b⟩;rw[HR.out,xa];rfl
 ·have xa:decide (ra≥0)=false:=decide_eq_false ta;clear ta;refine Tk1 (v:=?_) 4 hS2 ?_ ?_;rotate_left
  ·rintro w' ⟨s1,s2,s3,s4⟩;go_simp;first|done|with_reducible rfl|rfl
  simp only[Act.put,LA];refine Tk1 (v:=?_) 5 hS2 ?_ ?_;rotate_left
  ·rintro w' ⟨s1,s2,s3,s4⟩;go_simp;first|done|with_reducible rfl|rfl
  simp only[Act.put,LA];refine Tk0 6 hS2 ?_;simp only[Act.put,LA];refine Tk0 7 hS2 ?_;simp only[Act.put,LA];refine Tk0 8 hS2 ?_;simp only[Act.put,LA];refine Tk0 9 hS2 ?_;simp only[Act.put,LA];refine Tk1 (v:=?_) 10 hS2 ?_ ?_;rotate_left
  ·rintro w' ⟨s1,s2,s3,s4⟩;go_simp;first|done|with_reducible rfl|rfl
  simp only[Act.put,LA];refine Tk1 (v:=?_) 11 hS2 ?_ ?_;rotate_left
  ·rintro w' ⟨s1,s2,s3,s4⟩;go_simp;first|done|with_reducible rfl|rfl
  simp only[Act.put,LA];refine wpAnyH_done (by kernel_rfl) ?_ _;refine NoPanic.normal ?_;go_wp2_with fail;go_ret;refine⟨?_,I7.out.b⟩;rw[HR.out,xa];rfl
structure Bw where
 s:Bool
 a:Option Addr
 c:Nat
 xs:List Nat
abbrev Bw.val (u:Bw):Value:=.agg #[.bool u.s,.slice u.a u.xs.length u.c]
abbrev Bw.obj (u:Bw):Obj:=.cells #[.bool u.s,.slice u.a u.xs.length u.c] 31
structure Bw.R (u:Bw)(W:World)(X:Int):Prop where
 us:Us W u.a u.c u.xs
 cn:zaq u.s u.xs
 v:ival u.s u.xs=X
theorem Bw.R.next {u:Bw}{W W1:World}{X:Int}(h:u.R W X)(k:Below W.heap.size W W1):u.R W1 X:=⟨h.us.below k,h.cn,h.v⟩
structure Bw.B (u:Bw)(W:World)(g:Nat)(X:Int):Prop where
 box:W.heap[g]?=some u.obj
 r:u.R W X
theorem Bw.B.lt {u:Bw}{W:World}{g:Nat}{X:Int}(h:u.B W g X):g<W.heap.size:=(Array.getElem?_eq_some_iff.1 h.box).1
theorem Bw.B.c0 {u:Bw}{W:World}{g:Nat}{X:Int}(h:u.B W g X):W.cell? ⟨g,0,none⟩=some (.bool u.s):=by rw[cell_of_row W g _ _ _ (0,0) h.box];rfl
theorem Bw.B.c1 {u:Bw}{W:World}{g:Nat}{X:Int}(h:u.B W g X):W.cell? ⟨g,1,none⟩=some (.slice u.a u.xs.length u.c):=by rw[cell_of_row W g _ _ _ (0,0) h.box];rfl
theorem Bw.B.free {u:Bw}{W:World}{g:Nat}{X:Int}(h:u.B W g X)(k:Nat):W.frozen? ⟨g,k,none⟩=false:=frozen_of_row W g k _ _ h.box
theorem Bw.B.next {u:Bw}{W W1:World}{g:Nat}{X:Int}(h:u.B W g X)(k:Below W.heap.size W W1):u.B W1 g X:=⟨(k.block g h.lt).trans h.box,h.r.next k⟩
theorem Bw.R.box {u:Bw}{w:World}{X:Int}(h:u.R w X):u.B (w.alloc u.obj) w.heap.size X:=⟨heap_alloc_new w _,h.next ((Below.refl _ w).alloc (Nat.le_refl _) _)⟩
theorem Bw.R.stored {u:Bw}{W:World}{X:Int}(h:u.R W X){g:Nat}{o:Bw}(hb:W.heap[g]?=some o.obj)(n:Bw):u.R ((W.setCell ⟨g,0,none⟩ (.bool n.s)).setCell ⟨g,1,none⟩ (.slice n.a n.xs.length n.c)) X :=
 ⟨zbs h.us (fun k _ hk=>(Below.heap_setCell _ _ _ _ hk).trans (Below.heap_setCell _ _ _ _ hk)) (by simp[World.setCell]) (zbQ h.us (zcy hb)),h.cn,h.v⟩
theorem Bw.B.other {u:Bw}{W:World}{g':Nat}{X:Int}(h:u.B W g' X){g:Nat}{o:Bw}(hb:W.heap[g]?=some o.obj)(hne:g'≠g)(n:Bw):u.B ((W.setCell ⟨g,0,none⟩ (.bool n.s)).setCell ⟨g,1,none⟩ (.slice n.a n.xs.length n.c)) g' X :=
 ⟨((Below.heap_setCell _ _ _ _ hne).trans (Below.heap_setCell _ _ _ _ hne)).trans h.box,h.r.stored hb n⟩
theorem Bw.R.set {u:Bw}{W:World}{X:Int}(h:u.R W X){g:Nat}{o:Bw}(hb:W.heap[g]?=some o.obj):u.B ((W.setCell ⟨g,0,none⟩ (.bool u.s)).setCell ⟨g,1,none⟩ (.slice u.a u.xs.length u.c)) g X :=
 ⟨heap_setCell_same _ g 1 _ _ _ (heap_setCell_same W g 0 _ _ _ hb),h.stored hb u⟩
theorem zah {n:Int}{w w':World}{e:Ending}(h:RetI n w e w'):∃u:Bw,e=.returned u.val∧u.R w' n∧Below w.heap.size w w':=by
 obtain⟨A,c,s,r,he,hu,hk,hv,hb⟩:=h;exact⟨⟨s,A,c,r⟩,he,⟨hu,hk,hv⟩,hb⟩
def bw0:Bw:=⟨false,none,0,[]⟩
theorem zaA {u:Bw}{W:World}{X:Int}(h:u.R W X)(h0 : -p2 1330≤X)(h1:X≤p2 1330):u.xs.length≤50:=zbi h.cn h.v h0 h1
def RetQ (X Y:Int)(m:Nat)(w:World)(e:Ending)(w':World):Prop :=
 ∃u v:Bw,e=.returned (.tuple #[.int .i64 (qtI (p2 m) X Y:Nat),u.val,v.val])∧u.R w' (subI (p2 m) X)∧v.R w' (subI (p2 m) Y)∧Below w.heap.size w w'
structure QQ (w:World)(gx gy g7 g8 gh:Nat)(u v h:Bw)(X Y H:Int)(W:World):Prop where
 b:Below w.heap.size w W
 x:u.B W gx X
 y:v.B W gy Y
 h:h.B W gh H
 r7:W.heap[g7]?=some bw0.obj
 r8:W.heap[g8]?=some bw0.obj
theorem QQ.next {w:World}{gx gy g7 g8 gh:Nat}{u v h:Bw}{X Y H:Int}{W W1:World}(q:QQ w gx gy g7 g8 gh u v h X Y H W)(k:Below W.heap.size W W1):QQ w gx gy g7 g8 gh u v h X Y H W1 :=
 ⟨q.b.trans (k.mono q.b.size),q.x.next k,q.y.next k,q.h.next k,(k.block _ (Array.getElem?_eq_some_iff.1 q.r7).1).trans q.r7,(k.block _ (Array.getElem?_eq_some_iff.1 q.r8).1).trans q.r8⟩
theorem QQ.setX {w:World}{gx gy g7 g8 gh:Nat}{u v h:Bw}{X Y H:Int}{W:World}(q:QQ w gx gy g7 g8 gh u v h X Y H W){n:Bw}{Z:Int}(hn:n.R W Z)(h0:w.heap.size≤gx)(d:gx≠gy∧gx≠gh∧gx≠g7∧gx≠g8):QQ w gx gy g7 g8 gh n v h Z Y H ((W.setCell ⟨gx,0,none⟩ (.bool n.s)).setCell ⟨gx,1,none⟩ (.slice n.a n.xs.length n.c)) :=
 ⟨(q.b.setCell h0 _).setCell h0 _,hn.set q.x.box,q.y.other q.x.box (fun e=>d.1 e.symm) n,q.h.other q.x.box (fun e=>d.2.1 e.symm) n,((Below.heap_setCell _ _ _ _ (fun e=>d.2.2.1 e.symm)).trans (Below.heap_setCell _ _ _ _ (fun e=>d.2.2.1 e.symm))).trans q.r7,((Below.heap_setCell _ _ _ _ (fun e=>d.2.2.2 e.symm)).trans (Below.heap_setCell _ _ _ _ (fun e=>d.2.2.2 e.symm))).trans q.r8⟩
theorem QQ.setY {w:World}{gx gy g7 g8 gh:Nat}{u v h:Bw}{X Y H:Int}{W:World}(q:QQ w gx gy g7 g8 gh u v h X Y H W){n:Bw}{Z:Int}(hn:n.R W Z)(h0:w.heap.size≤gy)(d:gy≠gx∧gy≠gh∧gy≠g7∧gy≠g8):QQ w gx gy g7 g8 gh u n h X Z H ((W.setCell ⟨gy,0,none⟩ (.bool n.s)).setCell ⟨gy,1,none⟩ (.slice n.a n.xs.length n.c)) :=
 ⟨(q.b.setCell h0 _).setCell h0 _,q.x.other q.y.box (fun e=>d.1 e.symm) n,hn.set q.y.box,q.h.other q.y.box (fun e=>d.2.1 e.symm) n,((Below.heap_setCell _ _ _ _ (fun e=>d.2.2.1 e.symm)).trans (Below.heap_setCell _ _ _ _ (fun e=>d.2.2.1 e.symm))).trans q.r7,((Below.heap_setCell _ _ _ _ (fun e=>d.2.2.2 e.symm)).trans (Below.heap_setCell _ _ _ _ (fun e=>d.2.2.2 e.symm))).trans q.r8⟩
theorem QQ.done {w:World}{gx gy g7 g8 gh:Nat}{u v h:Bw}{X Y H:Int}{W:World}(q:QQ w gx gy g7 g8 gh u v h X Y H W)(h7:w.heap.size≤g7)(h8:w.heap.size≤g8)(hne:g7≠g8) :
  u.B ((((W.setCell ⟨g7,0,none⟩ (.bool u.s)).setCell ⟨g7,1,none⟩ (.slice u.a u.xs.length u.c)).setCell ⟨g8,0,none⟩ (.bool v.s)).setCell ⟨g8,1,none⟩ (.slice v.a v.xs.length v.c)).drew g7 X∧v.B ((((W.setCell ⟨g7,0,none⟩ (.bool u.s)).setCell ⟨g7,1,none⟩ (.slice u.a u.xs.length u.c)).setCell ⟨g8,0,none⟩ (.bool v.s)).setCell ⟨g8,1,none⟩ (.slice v.a v.xs.length v.c)).drew g8 Y∧Below w.heap.size w ((((W.setCell ⟨g7,0,none⟩ (.bool u.s)).setCell ⟨g7,1,none⟩ (.slice u.a u.xs.length u.c)).setCell ⟨g8,0,none⟩ (.bool v.s)).setCell ⟨g8,1,none⟩ (.slice v.a v.xs.length v.c)).drew:=by
 have e8:((W.setCell ⟨g7,0,none⟩ (.bool u.s)).setCell ⟨g7,1,none⟩ (.slice u.a u.xs.length u.c)).heap[g8]?=some bw0.obj:=((Below.heap_setCell _ _ _ _ (fun e=>hne e.symm)).trans (Below.heap_setCell _ _ _ _ (fun e=>hne e.symm))).trans q.r8;have ha:=q.x.r.set q.r7;have hb:=(q.y.r.stored q.r7 u).set e8;have hb2:=ha.other e8 hne v;exact⟨hb2.next (Below.drew' (Below.refl _ _)),hb.next (Below.drew' (Below.refl _ _)),Below.drew' ((((q.b.setCell h7 _).setCell h7 _).setCell h8 _).setCell h8 _)⟩
theorem zcC (u v:Bw)(X Y:Int)(m:Nat)(w:World)(hu:u.R w X)(hv:v.R w Y)(hX : -p2 1329≤X∧X≤p2 1329)(hY : -p2 1329≤Y∧Y≤p2 1329)(hm:m≤1329) :
  Calls Tryz.prog 45 #[.int .i64 ((m:Int)+1),u.val,v.val] w (RetQ X Y m w):=by
 have hcu:=hu.us.cap;have hcv:=hv.us.cap;obtain⟨RR,hRR⟩:∃RR,RR=RetQ X Y m w:=⟨_,rfl⟩;rw[←hRR];have HRR:=Hh hRR;have e0:p2 1330=p2 (1329+1):=rfl;have e1:=zal 1329;have e2:=zam 1329;have e3:=zar hm;have e4:=zam m;have lu:=zaA hu (by omega) (by omega);have lv:=zaA hv (by omega) (by omega);have HPM:=Hh (show -p2 1330≤p2 m∧p2 m≤p2 1330 from⟨by omega,by omega⟩);have HXM:=Hh (show -p2 1330≤X-p2 m∧X-p2 m≤p2 1330 from⟨by omega,by omega⟩);obtain⟨W,hW⟩:∃W:World,W=(((w.alloc (.cells #[.bool u.s,.slice u.a u.xs.length u.c] 31)).alloc (.cells #[.bool v.s,.slice v.a v.xs.length v.c] 31)).alloc (.cells #[.bool false,.slice none 0 0] 31)).alloc (.cells #[.bool false,.slice none 0 0] 31):=⟨_,rfl⟩;have hb:Below w.heap.size w W:=by rw[hW];exact((((Below.refl _ w).alloc (Nat.le_refl _) _).alloc (by simp) _).alloc (by simp;omega) _).alloc (by simp;omega) _
 have hx:u.B W w.heap.size X:=⟨by rw[hW];exact(Below.heap_alloc _ _ _ (by simp only[World.size_alloc];omega)).trans ((Below.heap_alloc _ _ _ (by simp only[World.size_alloc];omega)).trans ((Below.heap_alloc _ _ _ (by simp only[World.size_alloc];omega)).trans (heap_alloc_new w _))),hu.next hb⟩;have hy:v.B W (w.heap.size+1) Y:=⟨by
  rw[hW];refine(Below.heap_alloc _ _ _ (by simp only[World.size_alloc];omega)).trans ((Below.heap_alloc _ _ _ (by simp only[World.size_alloc];omega)).trans ?_);have:=heap_alloc_new (w.alloc u.obj) v.obj
  rwa [World.size_alloc] at this,hv.next hb⟩
 have hr7:W.heap[(w.heap.size+1+1)]?=some bw0.obj:=by
  rw[hW];refine(Below.heap_alloc _ _ _ (by simp only[World.size_alloc];omega)).trans ?_;have:=heap_alloc_new ((w.alloc u.obj).alloc v.obj) bw0.obj
  rwa [World.size_alloc,World.size_alloc] at this
 have hr8:W.heap[(w.heap.size+1+1+1)]?=some bw0.obj:=by
  rw[hW];have:=heap_alloc_new (((w.alloc u.obj).alloc v.obj).alloc bw0.obj) bw0.obj
  rwa [World.size_alloc,World.size_alloc,World.size_alloc] at this
 have HX:=Hh hx;have HY:=Hh hy;have H7:=Hh hr7;have H8:=Hh hr8;have HB:=Hh hb;have HW:=Hh hW;have hs8:(w.heap.size+1+1+1)<W.heap.size:=(Array.getElem?_eq_some_iff.1 hr8).1;have f0:IntKind.i64.wrap ((m:Int)+1-1)=(m:Int):=by rw[show(m:Int)+1-1=(m:Int) by omega];exact IntWalk.i64_in _ (by omega)
 obtain⟨ra,hra⟩:∃r,r=ordI X (p2 m):=⟨_,rfl⟩;obtain⟨rb,hrb⟩:∃r,r=ordI Y (p2 m):=⟨_,rfl⟩;have ea:decide (ra≥0)=decide (p2 m≤X):=by rw[hra,zdB]
 have eb:decide (rb≥0)=decide (p2 m≤Y):=by rw[hrb,zdB]
 have HEA:=Hh ea;have HEB:=Hh eb;have HRA:=Hh hra;have HRB:=Hh hrb;have q0:True:=trivial;clear hu hv hRR hW hb hx hy hr7 hr8 hra hrb ea eb e0 e1 e2 e3 e4;by_cases ta:ra≥0
 ·have xa:decide (ra≥0)=true:=decide_eq_true ta;by_cases tb:rb≥0
  ·have xb:decide (rb≥0)=true:=decide_eq_true tb;go_enter Tryz.func45,Tryz.ntmps45;go_wp2_with (first
    | (go_at_call 44;(rw[←HW.out]);go_loud (refine(zaS _ _).mono ?_;rintro e w5 h5;rw[zbZ m (by omega)] at h5;obtain⟨h,rfl,k5,b5⟩:=zah h5;have L5:=Hh (zaA k5 HPM.out.1 HPM.out.2);have hch:=k5.us.cap;have hbl:=(Below.refl w5.heap.size w5).alloc (Nat.le_refl _) (.cells #[.bool h.s,.slice h.a h.xs.length h.c] 31);have hbb:=b5.trans (hbl.mono b5.size);have S1:=Hh (show QQ w w.heap.size (w.heap.size+1) (w.heap.size+1+1) (w.heap.size+1+1+1) w5.heap.size u v h X Y (p2 m) (w5.alloc (.cells #[.bool h.s,.slice h.a h.xs.length h.c] 31)) from⟨HB.out.trans (hbb.mono HB.out.size),HX.out.next hbb,HY.out.next hbb,k5.box,(hbb.block _ (Array.getElem?_eq_some_iff.1 H7.out).1).trans H7.out,(hbb.block _ (Array.getElem?_eq_some_iff.1 H8.out).1).trans H8.out⟩);have HH:=Hh (show(w.heap.size+1+1+1)<w5.heap.size from Nat.lt_of_lt_of_le hs8 b5.size);have hx0:=S1.out.x.c0;have hx1:=S1.out.x.c1;have hh0:=S1.out.h.c0;have hh1:=S1.out.h.c1;have hy0:=S1.out.y.c0;have hy1:=S1.out.y.c1;clear k5 b5 h5 hbl hbb))
    | (have _t:=q0;go_at_call 62;clear _t;go_loud (refine(zae u.s h.s u.a h.a u.c h.c u.xs h.xs _ S1.out.x.r.us S1.out.h.r.us (by have:=lu;omega) (by have:=L5.out;omega)).mono ?_;rintro e w6 ⟨rfl,b6⟩;rw[S1.out.x.r.v,S1.out.h.r.v,←HRA.out];have S2:=Hh (S1.out.next b6);have hx0:=S2.out.x.c0;have hx1:=S2.out.x.c1;have hh0:=S2.out.h.c0;have hh1:=S2.out.h.c1;have hy0:=S2.out.y.c0;have hy1:=S2.out.y.c1;clear b6;have q1:=q0;clear q0))
    | (have _t:=q1;go_at_call 64;clear _t;go_loud (refine(zct u.s h.s u.a h.a u.c h.c u.xs h.xs _ S2.out.x.r.us S2.out.h.r.us (by have:=lu;omega) (by have:=L5.out;omega)).mono ?_;rintro e w7 h7;rw[S2.out.x.r.v,S2.out.h.r.v] at h7;obtain⟨n1,rfl,k7,b7⟩:=zah h7;have hcn1:=k7.us.cap;have S3:=Hh (QQ.setX (S2.out.next b7) k7 (by omega) (by have:=HH.out;omega));have pf:=((S2.out.next b7).x.free);have pf0:=pf 0;have pf1:=pf 1;have pc0:=(S2.out.next b7).x.c0;have pc1:=(S2.out.next b7).x.c1;have hx0:=S3.out.x.c0;have hx1:=S3.out.x.c1;have hh0:=S3.out.h.c0;have hh1:=S3.out.h.c1;have hy0:=S3.out.y.c0;have hy1:=S3.out.y.c1;clear pf b7 k7 h7;have q2:=q1;clear q1))
    | (have _t:=q2;go_at_call 62;clear _t;go_loud (refine(zae v.s h.s v.a h.a v.c h.c v.xs h.xs _ S3.out.y.r.us S3.out.h.r.us (by have:=lv;omega) (by have:=L5.out;omega)).mono ?_;rintro e w6 ⟨rfl,b6⟩;rw[S3.out.y.r.v,S3.out.h.r.v,←HRB.out];have S4:=Hh (S3.out.next b6);have hx0:=S4.out.x.c0;have hx1:=S4.out.x.c1;have hh0:=S4.out.h.c0;have hh1:=S4.out.h.c1;have hy0:=S4.out.y.c0;have hy1:=S4.out.y.c1;clear b6;have q3:=q2;clear q2))
    | (have _t:=q3;go_at_call 64;clear _t;go_loud (refine(zct v.s h.s v.a h.a v.c h.c v.xs h.xs _ S4.out.y.r.us S4.out.h.r.us (by have:=lv;omega) (by have:=L5.out;omega)).mono ?_;rintro e w7 h7;rw[S4.out.y.r.v,S4.out.h.r.v] at h7;obtain⟨n2,rfl,k7,b7⟩:=zah h7;have hcn2:=k7.us.cap;have S5:=Hh (QQ.setY (S4.out.next b7) k7 (by omega) (by have:=HH.out;omega));have pf:=((S4.out.next b7).y.free);have pf0:=pf 0;have pf1:=pf 1;have pc0:=(S4.out.next b7).y.c0;have pc1:=(S4.out.next b7).y.c1;have hx0:=S5.out.x.c0;have hx1:=S5.out.x.c1;have hh0:=S5.out.h.c0;have hh1:=S5.out.h.c1;have hy0:=S5.out.y.c0;have hy1:=S5.out.y.c1;clear pf b7 k7 h7;have q4:=q3;clear q3)))
   obtain⟨V,hV⟩:∃V,V=(w7.setCell ⟨w.heap.size+1,0,none⟩ (.bool n2.s)).setCell ⟨w.heap.size+1,1,none⟩ (.slice n2.a n2.xs.length n2.c):=⟨_,rfl⟩;rw[←hV] at S5 ⊢;have D:=Hh (S5.out.next (Below.drew' (Below.refl _ V)));clear hx0 hx1 hh0 hh1 hy0 hy1 hV;have hx0:=D.out.x.c0;have hx1:=D.out.x.c1;have hy0:=D.out.y.c0;have hy1:=D.out.y.c1;obtain⟨r0,r1⟩:=zak D.out.r7;obtain⟨r2,r3⟩:=zak D.out.r8;have z0:=frozen_of_row _ _ 0 _ _ D.out.r7;have z1:=frozen_of_row _ _ 1 _ _ D.out.r7;have z2:=frozen_of_row _ _ 0 _ _ D.out.r8;have z3:=frozen_of_row _ _ 1 _ _ D.out.r8;have hx2:=S5.out.x.c0;have hx3:=S5.out.x.c1;have hy2:=S5.out.y.c0;have hy3:=S5.out.y.c1;obtain⟨r4,r5⟩:=zak S5.out.r7;obtain⟨r6,r7⟩:=zak S5.out.r8;have z4:=frozen_of_row _ _ 0 _ _ S5.out.r7;have z5:=frozen_of_row _ _ 1 _ _ S5.out.r7;have z6:=frozen_of_row _ _ 0 _ _ S5.out.r8;have z7:=frozen_of_row _ _ 1 _ _ S5.out.r8;go_region;obtain⟨da,db,dc⟩:=S5.out.done (by omega) (by omega) (by omega);have DA:=Hh da;have DB:=Hh db;have DC:=Hh dc;have e0:=da.c0;have e1:=da.c1;have e2:=db.c0;have e3:=db.c1;clear da db dc;generalize hF:World.drew _=F at e0 e1 e2 e3 DA DB DC ⊢;go_wp2_with fail;refine bodyPost_ret (v:=.tuple #[.int .i64 3,n1.val,n2.val]) (by simp[results,Tryz.results45,go_sem,e0,e1,e2,e3]) rfl ?_;rw[HRR.out];have kx:decide (p2 m≤X)=true:=HEA.out.symm.trans xa;have ky:decide (p2 m≤Y)=true:=HEB.out.symm.trans xb;simp only[decide_eq_true_iff] at kx;simp only[decide_eq_true_iff] at ky;have hq:qtI (p2 m) X Y=3:=by unfold qtI;rw[if_neg (by omega),if_neg (by omega)]
   have sx:subI (p2 m) X=X-p2 m:=by unfold subI;rw[if_neg (by omega)]
   have sy:subI (p2 m) Y=Y-p2 m:=by unfold subI;rw[if_neg (by omega)]
   refine⟨n1,n2,?_,by rw[sx];exact DA.out.r,by rw[sy];exact DB.out.r,DC.out⟩;rw[hq];rfl
  ·have xb:decide (rb≥0)=false:=decide_eq_false tb;go_enter Tryz.func45,Tryz.ntmps45;go_wp2_with (first
    | (go_at_call 44;(rw[←HW.out]);go_loud (refine(zaS _ _).mono ?_;rintro e w5 h5;rw[zbZ m (by omega)] at h5;obtain⟨h,rfl,k5,b5⟩:=zah h5;have L5:=Hh (zaA k5 HPM.out.1 HPM.out.2);have hch:=k5.us.cap;have hbl:=(Below.refl w5.heap.size w5).alloc (Nat.le_refl _) (.cells #[.bool h.s,.slice h.a h.xs.length h.c] 31);have hbb:=b5.trans (hbl.mono b5.size);have S1:=Hh (show QQ w w.heap.size (w.heap.size+1) (w.heap.size+1+1) (w.heap.size+1+1+1) w5.heap.size u v h X Y (p2 m) (w5.alloc (.cells #[.bool h.s,.slice h.a h.xs.length h.c] 31)) from⟨HB.out.trans (hbb.mono HB.out.size),HX.out.next hbb,HY.out.next hbb,k5.box,(hbb.block _ (Array.getElem?_eq_some_iff.1 H7.out).1).trans H7.out,(hbb.block _ (Array.getElem?_eq_some_iff.1 H8.out).1).trans H8.out⟩);have HH:=Hh (show(w.heap.size+1+1+1)<w5.heap.size from Nat.lt_of_lt_of_le hs8 b5.size);have hx0:=S1.out.x.c0;have hx1:=S1.out.x.c1;have hh0:=S1.out.h.c0;have hh1:=S1.out.h.c1;have hy0:=S1.out.y.c0;have hy1:=S1.out.y.c1;clear k5 b5 h5 hbl hbb))
    | (have _t:=q0;go_at_call 62;clear _t;go_loud (refine(zae u.s h.s u.a h.a u.c h.c u.xs h.xs _ S1.out.x.r.us S1.out.h.r.us (by have:=lu;omega) (by have:=L5.out;omega)).mono ?_;rintro e w6 ⟨rfl,b6⟩;rw[S1.out.x.r.v,S1.out.h.r.v,←HRA.out];have S2:=Hh (S1.out.next b6);have hx0:=S2.out.x.c0;have hx1:=S2.out.x.c1;have hh0:=S2.out.h.c0;have hh1:=S2.out.h.c1;have hy0:=S2.out.y.c0;have hy1:=S2.out.y.c1;clear b6;have q1:=q0;clear q0))
    | (have _t:=q1;go_at_call 64;clear _t;go_loud (refine(zct u.s h.s u.a h.a u.c h.c u.xs h.xs _ S2.out.x.r.us S2.out.h.r.us (by have:=lu;omega) (by have:=L5.out;omega)).mono ?_;rintro e w7 h7;rw[S2.out.x.r.v,S2.out.h.r.v] at h7;obtain⟨n1,rfl,k7,b7⟩:=zah h7;have hcn1:=k7.us.cap;have S3:=Hh (QQ.setX (S2.out.next b7) k7 (by omega) (by have:=HH.out;omega));have pf:=((S2.out.next b7).x.free);have pf0:=pf 0;have pf1:=pf 1;have pc0:=(S2.out.next b7).x.c0;have pc1:=(S2.out.next b7).x.c1;have hx0:=S3.out.x.c0;have hx1:=S3.out.x.c1;have hh0:=S3.out.h.c0;have hh1:=S3.out.h.c1;have hy0:=S3.out.y.c0;have hy1:=S3.out.y.c1;clear pf b7 k7 h7;have q2:=q1;clear q1))
    | (have _t:=q2;go_at_call 62;clear _t;go_loud (refine(zae v.s h.s v.a h.a v.c h.c v.xs h.xs _ S3.out.y.r.us S3.out.h.r.us (by have:=lv;omega) (by have:=L5.out;omega)).mono ?_;rintro e w6 ⟨rfl,b6⟩;rw[S3.out.y.r.v,S3.out.h.r.v,←HRB.out];have S4:=Hh (S3.out.next b6);have hx0:=S4.out.x.c0;have hx1:=S4.out.x.c1;have hh0:=S4.out.h.c0;have hh1:=S4.out.h.c1;have hy0:=S4.out.y.c0;have hy1:=S4.out.y.c1;clear b6;have q3:=q2;clear q2)))
   obtain⟨V,hV⟩:∃V,V=w6:=⟨_,rfl⟩;rw[←hV] at S4 ⊢;have D:=Hh (S4.out.next (Below.drew' (Below.refl _ V)));clear hx0 hx1 hh0 hh1 hy0 hy1 hV;have hx0:=D.out.x.c0;have hx1:=D.out.x.c1;have hy0:=D.out.y.c0;have hy1:=D.out.y.c1;obtain⟨r0,r1⟩:=zak D.out.r7;obtain⟨r2,r3⟩:=zak D.out.r8;have z0:=frozen_of_row _ _ 0 _ _ D.out.r7;have z1:=frozen_of_row _ _ 1 _ _ D.out.r7;have z2:=frozen_of_row _ _ 0 _ _ D.out.r8;have z3:=frozen_of_row _ _ 1 _ _ D.out.r8;have hx2:=S4.out.x.c0;have hx3:=S4.out.x.c1;have hy2:=S4.out.y.c0;have hy3:=S4.out.y.c1;obtain⟨r4,r5⟩:=zak S4.out.r7;obtain⟨r6,r7⟩:=zak S4.out.r8;have z4:=frozen_of_row _ _ 0 _ _ S4.out.r7;have z5:=frozen_of_row _ _ 1 _ _ S4.out.r7;have z6:=frozen_of_row _ _ 0 _ _ S4.out.r8;have z7:=frozen_of_row _ _ 1 _ _ S4.out.r8;go_region;obtain⟨da,db,dc⟩:=S4.out.done (by omega) (by omega) (by omega);have DA:=Hh da;have DB:=Hh db;have DC:=Hh dc;have e0:=da.c0;have e1:=da.c1;have e2:=db.c0;have e3:=db.c1;clear da db dc;generalize hF:World.drew _=F at e0 e1 e2 e3 DA DB DC ⊢;go_wp2_with fail;refine bodyPost_ret (v:=.tuple #[.int .i64 1,n1.val,v.val]) (by simp[results,Tryz.results45,go_sem,e0,e1,e2,e3]) rfl ?_;rw[HRR.out];have kx:decide (p2 m≤X)=true:=HEA.out.symm.trans xa;have ky:decide (p2 m≤Y)=false:=HEB.out.symm.trans xb;simp only[decide_eq_true_iff] at kx;simp only[decide_eq_false_iff_not] at ky;have hq:qtI (p2 m) X Y=1:=by unfold qtI;rw[if_neg (by omega),if_pos (by omega)]
   have sx:subI (p2 m) X=X-p2 m:=by unfold subI;rw[if_neg (by omega)]
   have sy:subI (p2 m) Y=Y:=by unfold subI;rw[if_pos (by omega)]
   refine⟨n1,v,?_,by rw[sx];exact DA.out.r,by rw[sy];exact DB.out.r,DC.out⟩;rw[hq];rfl
 ·have xa:decide (ra≥0)=false:=decide_eq_false ta;by_cases tb:rb≥0
  ·have xb:decide (rb≥0)=true:=decide_eq_true tb;go_enter Tryz.func45,Tryz.ntmps45;go_wp2_with (first
    | (go_at_call 44;(rw[←HW.out]);go_loud (refine(zaS _ _).mono ?_;rintro e w5 h5;rw[zbZ m (by omega)] at h5;obtain⟨h,rfl,k5,b5⟩:=zah h5;have L5:=Hh (zaA k5 HPM.out.1 HPM.out.2);have hch:=k5.us.cap;have hbl:=(Below.refl w5.heap.size w5).alloc (Nat.le_refl _) (.cells #[.bool h.s,.slice h.a h.xs.length h.c] 31);have hbb:=b5.trans (hbl.mono b5.size);have S1:=Hh (show QQ w w.heap.size (w.heap.size+1) (w.heap.size+1+1) (w.heap.size+1+1+1) w5.heap.size u v h X Y (p2 m) (w5.alloc (.cells #[.bool h.s,.slice h.a h.xs.length h.c] 31)) from⟨HB.out.trans (hbb.mono HB.out.size),HX.out.next hbb,HY.out.next hbb,k5.box,(hbb.block _ (Array.getElem?_eq_some_iff.1 H7.out).1).trans H7.out,(hbb.block _ (Array.getElem?_eq_some_iff.1 H8.out).1).trans H8.out⟩);have HH:=Hh (show(w.heap.size+1+1+1)<w5.heap.size from Nat.lt_of_lt_of_le hs8 b5.size);have hx0:=S1.out.x.c0;have hx1:=S1.out.x.c1;have hh0:=S1.out.h.c0;have hh1:=S1.out.h.c1;have hy0:=S1.out.y.c0;have hy1:=S1.out.y.c1;clear k5 b5 h5 hbl hbb))
    | (have _t:=q0;go_at_call 62;clear _t;go_loud (refine(zae u.s h.s u.a h.a u.c h.c u.xs h.xs _ S1.out.x.r.us S1.out.h.r.us (by have:=lu;omega) (by have:=L5.out;omega)).mono ?_;rintro e w6 ⟨rfl,b6⟩;rw[S1.out.x.r.v,S1.out.h.r.v,←HRA.out];have S2:=Hh (S1.out.next b6);have hx0:=S2.out.x.c0;have hx1:=S2.out.x.c1;have hh0:=S2.out.h.c0;have hh1:=S2.out.h.c1;have hy0:=S2.out.y.c0;have hy1:=S2.out.y.c1;clear b6;have q1:=q0;clear q0))
    | (have _t:=q1;go_at_call 62;clear _t;go_loud (refine(zae v.s h.s v.a h.a v.c h.c v.xs h.xs _ S2.out.y.r.us S2.out.h.r.us (by have:=lv;omega) (by have:=L5.out;omega)).mono ?_;rintro e w6 ⟨rfl,b6⟩;rw[S2.out.y.r.v,S2.out.h.r.v,←HRB.out];have S4:=Hh (S2.out.next b6);have hx0:=S4.out.x.c0;have hx1:=S4.out.x.c1;have hh0:=S4.out.h.c0;have hh1:=S4.out.h.c1;have hy0:=S4.out.y.c0;have hy1:=S4.out.y.c1;clear b6;have q3:=q1;clear q1))
    | (have _t:=q3;go_at_call 64;clear _t;go_loud (refine(zct v.s h.s v.a h.a v.c h.c v.xs h.xs _ S4.out.y.r.us S4.out.h.r.us (by have:=lv;omega) (by have:=L5.out;omega)).mono ?_;rintro e w7 h7;rw[S4.out.y.r.v,S4.out.h.r.v] at h7;obtain⟨n2,rfl,k7,b7⟩:=zah h7;have hcn2:=k7.us.cap;have S5:=Hh (QQ.setY (S4.out.next b7) k7 (by omega) (by have:=HH.out;omega));have pf:=((S4.out.next b7).y.free);have pf0:=pf 0;have pf1:=pf 1;have pc0:=(S4.out.next b7).y.c0;have pc1:=(S4.out.next b7).y.c1;have hx0:=S5.out.x.c0;have hx1:=S5.out.x.c1;have hh0:=S5.out.h.c0;have hh1:=S5.out.h.c1;have hy0:=S5.out.y.c0;have hy1:=S5.out.y.c1;clear pf b7 k7 h7;have q4:=q3;clear q3)))
   obtain⟨V,hV⟩:∃V,V=(w7.setCell ⟨w.heap.size+1,0,none⟩ (.bool n2.s)).setCell ⟨w.heap.size+1,1,none⟩ (.slice n2.a n2.xs.length n2.c):=⟨_,rfl⟩;rw[←hV] at S5 ⊢;have D:=Hh (S5.out.next (Below.drew' (Below.refl _ V)));clear hx0 hx1 hh0 hh1 hy0 hy1 hV;have hx0:=D.out.x.c0;have hx1:=D.out.x.c1;have hy0:=D.out.y.c0;have hy1:=D.out.y.c1;obtain⟨r0,r1⟩:=zak D.out.r7;obtain⟨r2,r3⟩:=zak D.out.r8;have z0:=frozen_of_row _ _ 0 _ _ D.out.r7;have z1:=frozen_of_row _ _ 1 _ _ D.out.r7;have z2:=frozen_of_row _ _ 0 _ _ D.out.r8;have z3:=frozen_of_row _ _ 1 _ _ D.out.r8;have hx2:=S5.out.x.c0;have hx3:=S5.out.x.c1;have hy2:=S5.out.y.c0;have hy3:=S5.out.y.c1;obtain⟨r4,r5⟩:=zak S5.out.r7;obtain⟨r6,r7⟩:=zak S5.out.r8;have z4:=frozen_of_row _ _ 0 _ _ S5.out.r7;have z5:=frozen_of_row _ _ 1 _ _ S5.out.r7;have z6:=frozen_of_row _ _ 0 _ _ S5.out.r8;have z7:=frozen_of_row _ _ 1 _ _ S5.out.r8;go_region;obtain⟨da,db,dc⟩:=S5.out.done (by omega) (by omega) (by omega);have DA:=Hh da;have DB:=Hh db;have DC:=Hh dc;have e0:=da.c0;have e1:=da.c1;have e2:=db.c0;have e3:=db.c1;clear da db dc;generalize hF:World.drew _=F at e0 e1 e2 e3 DA DB DC ⊢;go_wp2_with fail;refine bodyPost_ret (v:=.tuple #[.int .i64 2,u.val,n2.val]) (by simp[results,Tryz.results45,go_sem,e0,e1,e2,e3]) rfl ?_;rw[HRR.out];have kx:decide (p2 m≤X)=false:=HEA.out.symm.trans xa;have ky:decide (p2 m≤Y)=true:=HEB.out.symm.trans xb;simp only[decide_eq_false_iff_not] at kx;simp only[decide_eq_true_iff] at ky;have hq:qtI (p2 m) X Y=2:=by unfold qtI;rw[if_pos (by omega),if_neg (by omega)]
   have sx:subI (p2 m) X=X:=by unfold subI;rw[if_pos (by omega)]
   have sy:subI (p2 m) Y=Y-p2 m:=by unfold subI;rw[if_neg (by omega)]
   refine⟨u,n2,?_,by rw[sx];exact DA.out.r,by rw[sy];exact DB.out.r,DC.out⟩;rw[hq];rfl
  ·have xb:decide (rb≥0)=false:=decide_eq_false tb;go_enter Tryz.func45,Tryz.ntmps45;go_wp2_with (first
    | (go_at_call 44;(rw[←HW.out]);go_loud (refine(zaS _ _).mono ?_;rintro e w5 h5;rw[zbZ m (by omega)] at h5;obtain⟨h,rfl,k5,b5⟩:=zah h5;have L5:=Hh (zaA k5 HPM.out.1 HPM.out.2);have hch:=k5.us.cap;have hbl:=(Below.refl w5.heap.size w5).alloc (Nat.le_refl _) (.cells #[.bool h.s,.slice h.a h.xs.length h.c] 31);have hbb:=b5.trans (hbl.mono b5.size);have S1:=Hh (show QQ w w.heap.size (w.heap.size+1) (w.heap.size+1+1) (w.heap.size+1+1+1) w5.heap.size u v h X Y (p2 m) (w5.alloc (.cells #[.bool h.s,.slice h.a h.xs.length h.c] 31)) from⟨HB.out.trans (hbb.mono HB.out.size),HX.out.next hbb,HY.out.next hbb,k5.box,(hbb.block _ (Array.getElem?_eq_some_iff.1 H7.out).1).trans H7.out,(hbb.block _ (Array.getElem?_eq_some_iff.1 H8.out).1).trans H8.out⟩);have HH:=Hh (show(w.heap.size+1+1+1)<w5.heap.size from Nat.lt_of_lt_of_le hs8 b5.size);have hx0:=S1.out.x.c0;have hx1:=S1.out.x.c1;have hh0:=S1.out.h.c0;have hh1:=S1.out.h.c1;have hy0:=S1.out.y.c0;have hy1:=S1.out.y.c1;clear k5 b5 h5 hbl hbb))
    | (have _t:=q0;go_at_call 62;clear _t;go_loud (refine(zae u.s h.s u.a h.a u.c h.c u.xs h.xs _ S1.out.x.r.us S1.out.h.r.us (by have:=lu;omega) (by have:=L5.out;omega)).mono ?_;rintro e w6 ⟨rfl,b6⟩;rw[S1.out.x.r.v,S1.out.h.r.v,←HRA.out];have S2:=Hh (S1.out.next b6);have hx0:=S2.out.x.c0;have hx1:=S2.out.x.c1;have hh0:=S2.out.h.c0;have hh1:=S2.out.h.c1;have hy0:=S2.out.y.c0;have hy1:=S2.out.y.c1;clear b6;have q1:=q0;clear q0))
    | (have _t:=q1;go_at_call 62;clear _t;go_loud (refine(zae v.s h.s v.a h.a v.c h.c v.xs h.xs _ S2.out.y.r.us S2.out.h.r.us (by have:=lv;omega) (by have:=L5.out;omega)).mono ?_;rintro e w6 ⟨rfl,b6⟩;rw[S2.out.y.r.v,S2.out.h.r.v,←HRB.out];have S4:=Hh (S2.out.next b6);have hx0:=S4.out.x.c0;have hx1:=S4.out.x.c1;have hh0:=S4.out.h.c0;have hh1:=S4.out.h.c1;have hy0:=S4.out.y.c0;have hy1:=S4.out.y.c1;clear b6;have q3:=q1;clear q1)))
   obtain⟨V,hV⟩:∃V,V=w6:=⟨_,rfl⟩;rw[←hV] at S4 ⊢;have D:=Hh (S4.out.next (Below.drew' (Below.refl _ V)));clear hx0 hx1 hh0 hh1 hy0 hy1 hV;have hx0:=D.out.x.c0;have hx1:=D.out.x.c1;have hy0:=D.out.y.c0;have hy1:=D.out.y.c1;obtain⟨r0,r1⟩:=zak D.out.r7;obtain⟨r2,r3⟩:=zak D.out.r8;have z0:=frozen_of_row _ _ 0 _ _ D.out.r7;have z1:=frozen_of_row _ _ 1 _ _ D.out.r7;have z2:=frozen_of_row _ _ 0 _ _ D.out.r8;have z3:=frozen_of_row _ _ 1 _ _ D.out.r8;have hx2:=S4.out.x.c0;have hx3:=S4.out.x.c1;have hy2:=S4.out.y.c0;have hy3:=S4.out.y.c1;obtain⟨r4,r5⟩:=zak S4.out.r7;obtain⟨r6,r7⟩:=zak S4.out.r8;have z4:=frozen_of_row _ _ 0 _ _ S4.out.r7;have z5:=frozen_of_row _ _ 1 _ _ S4.out.r7;have z6:=frozen_of_row _ _ 0 _ _ S4.out.r8;have z7:=frozen_of_row _ _ 1 _ _ S4.out.r8;go_region;obtain⟨da,db,dc⟩:=S4.out.done (by omega) (by omega) (by omega);have DA:=Hh da;have DB:=Hh db;have DC:=Hh dc;have e0:=da.c0;have e1:=da.c1;have e2:=db.c0;have e3:=db.c1;clear da db dc;generalize hF:World.drew _=F at e0 e1 e2 e3 DA DB DC ⊢;go_wp2_with fail;refine bodyPost_ret (v:=.tuple #[.int .i64 0,u.val,v.val]) (by simp[results,Tryz.results45,go_sem,e0,e1,e2,e3]) rfl ?_;rw[HRR.out];have kx:decide (p2 m≤X)=false:=HEA.out.symm.trans xa;have ky:decide (p2 m≤Y)=false:=HEB.out.symm.trans xb;simp only[decide_eq_false_iff_not] at kx;simp only[decide_eq_false_iff_not] at ky;have hq:qtI (p2 m) X Y=0:=by unfold qtI;rw[if_pos (by omega),if_pos (by omega)]
   have sx:subI (p2 m) X=X:=by unfold subI;rw[if_pos (by omega)]
   have sy:subI (p2 m) Y=Y:=by unfold subI;rw[if_pos (by omega)]
   refine⟨u,v,?_,by rw[sx];exact DA.out.r,by rw[sy];exact DB.out.r,DC.out⟩;rw[hq];rfl
end Go.Proofs.YtikehjindobpkaaGreat
