import Derived.Test.YtikehjindobpkaaGreatGGdY

set_option linter.unusedVariables false
set_option linter.unusedSimpArgs false
set_option maxRecDepth 100000
set_option maxHeartbeats 6400000
namespace Go.Proofs.YtikehjindobpkaaGreat
open Go.RowKit Num Nds
structure Sx (w W:World)(K:List (Nat × Obj))(G:List (Gr × Int × Int))(Q:List (Option Addr × Nat × List Nd)):Prop where
 b:Below w.heap.size w W
 bx:∀(i g:Nat) (o:Obj),K[i]?=some (g,o)→W.heap[g]?=some o
 gs:∀(i:Nat) (u:Gr) (X Y:Int),G[i]?=some (u,X,Y)→u.R W X Y
 qs:∀(i:Nat) (A:Option Addr) (c:Nat) (q:List Nd),Q[i]?=some (A,c,q)→Ns W A c q
theorem Sx.start (w:World):Sx w w [] [] []:=⟨Below.refl _ _,fun i g o h=>by simp at h,fun i u X Y h=>by simp at h,fun i A c q h=>by simp at h⟩
theorem Sx.next {w W W1:World}{K:List (Nat × Obj)}{G:List (Gr × Int × Int)}{Q:List (Option Addr × Nat × List Nd)}(s:Sx w W K G Q)(k:Below W.heap.size W W1):Sx w W1 K G Q :=
 ⟨s.b.trans (k.mono s.b.size),fun i g o h=>(k.block _ (heapLt (s.bx i g o h))).trans (s.bx i g o h),fun i u X Y h=>(s.gs i u X Y h).next k,fun i A c q h=>(s.qs i A c q h).below k⟩
theorem snoc_at {α:Type}{l:List α}{x y:α}{i:Nat}(h:(l++[x])[i]?=some y):l[i]?=some y∨y=x:=by
 rw[List.getElem?_append] at h
 split at h
 ·exact .inl h
 ·refine .inr ?_
  have:=List.mem_of_getElem? h
  exact(List.mem_singleton.1 this)
theorem Sx.box {w W:World}{K:List (Nat × Obj)}{G:List (Gr × Int × Int)}{Q:List (Option Addr × Nat × List Nd)}(s:Sx w W K G Q)(o:Obj):Sx w (W.alloc o) (K++[(W.heap.size,o)]) G Q:=by
 have t:=s.next ((Below.refl W.heap.size W).alloc (Nat.le_refl _) o)
 refine⟨t.b,fun i g o' h=>?_,t.gs,t.qs⟩
 rcases snoc_at h with h|h
 ·exact t.bx i g o' h
 ·cases h
  exact heap_alloc_new W o
theorem Sx.addG {w W:World}{K:List (Nat × Obj)}{G:List (Gr × Int × Int)}{Q:List (Option Addr × Nat × List Nd)}(s:Sx w W K G Q){u:Gr}{X Y:Int}(h:u.R W X Y):Sx w W K (G++[(u,X,Y)]) Q:=by
 refine⟨s.b,s.bx,fun i u' X' Y' k=>?_,s.qs⟩
 rcases snoc_at k with k|k
 ·exact s.gs i u' X' Y' k
 ·cases k
  exact h
theorem Sx.addQ {w W:World}{K:List (Nat × Obj)}{G:List (Gr × Int × Int)}{Q:List (Option Addr × Nat × List Nd)}(s:Sx w W K G Q){A:Option Addr}{c:Nat}{q:List Nd}(h:Ns W A c q):Sx w W K G (Q++[(A,c,q)]):=by
 refine⟨s.b,s.bx,s.gs,fun i A' c' q' k=>?_⟩
 rcases snoc_at k with k|k
 ·exact s.qs i A' c' q' k
 ·cases k
  exact h
theorem ts_lit {W:World}{g:Nat}{L:List (List UInt8)}(hb:W.heap[g]?=some (.cells (L.map strV).toArray 9))(hl:∀r∈L,r.length≤maxLen)(hn:L.length≤maxLen):Ts W (some ⟨g,0,none⟩) L.length L :=
 ⟨hl,by simp,hn,fun _=>⟨g,0,rfl,heapLt hb,fun j u hu=>by
  rw[cell_of_row _ _ _ _ _ _ hb,Nat.zero_add]
  simpa using hu⟩⟩
theorem sameG_yes {W:World}{u v:Gr}{X Y:Int}(h:u.R W X Y)(k:v.R W X Y)(e:u.L=v.L):sameG u v=true:=by
 unfold sameG
 rw[decide_eq_true (uniqI h.x.us.1 k.x.us.1 h.x.cn k.x.cn (h.x.v.trans k.x.v.symm)),decide_eq_true (uniqI h.y.us.1 k.y.us.1 h.y.cn k.y.cn (h.y.v.trans k.y.v.symm)),decide_eq_true e]
 rfl
theorem sameG_no {W:World}{u v:Gr}{X Y X' Y':Int}(h:u.R W X Y)(k:v.R W X' Y')(e:X≠X'):sameG u v=false:=by
 unfold sameG
 rw[decide_eq_false fun h1=>e (by rw[←h.x.v,←k.x.v,h1.1,h1.2])]
 rfl
def rows10:List (List UInt8):=[[1,0,1]]
def bad10:List (List UInt8):=[[],[120]]
def c10 (A B:Int):List Cl:=[⟨A,B,1⟩,⟨A+2,B,1⟩]
def P10 (A B:Int):Prop:=(A=2∧B=3)∨(A=0∧B=0)
theorem pic10 {A B:Int}(h:P10 A B):picL (picS rows10) A B (wideG rows10) rows10.length=c10 A B:=by
 rcases h with⟨rfl,rfl⟩|⟨rfl,rfl⟩ <;> kernel_rfl
theorem last10 {A B:Int}(h:P10 A B):lastF (c10 A B)=c10 A B:=by
 rcases h with⟨rfl,rfl⟩|⟨rfl,rfl⟩ <;> kernel_rfl
theorem least10 {A B:Int}(h:P10 A B):leastF (c10 A B)≤1329:=by
 rcases h with⟨rfl,rfl⟩|⟨rfl,rfl⟩
 ·have h:decide (leastF (c10 2 3)≤1329)=true:=by kernel_rfl
  exact of_decide_eq_true h
 ·have h:decide (leastF (c10 0 0)≤1329)=true:=by kernel_rfl
  exact of_decide_eq_true h
theorem len10 {A B:Int}(h:P10 A B){q:List Nd}(k:QuadOf (c10 A B) q):q.length≤900000:=by
 rw[←last10 h] at k
 have:=k.lenF.2
 rw[last10 h] at this
 exact Nat.le_trans this (show 1329*2≤900000 by omega)
theorem lk10 {A B x y:Int}(h:lk (c10 A B) x y≠0):y=B∧(x=A∨x=A+2):=by
 unfold c10 lk lk lk at h
 dsimp only at h
 split at h
 ·rename_i h1
  omega
 ·split at h
  ·rename_i h1
   omega
  ·exact absurd rfl h
theorem box10 {A B:Int}{q:List Nd}(k:QuadOf (c10 A B) q){ok:Bool}{X Y V H:Int}(b:BxV q q.length ok X Y V H):X=A∧Y=B∧V=3∧H=1:=by
 have hd:=k.den
 have c1:cellM (den q q.length) A B=1:=by
  rw[hd];unfold c10 lk;rw[if_pos ⟨rfl,rfl⟩]
 have c2:cellM (den q q.length) (A+2) B=1:=by
  rw[hd];unfold c10 lk lk;rw[if_neg (by dsimp only;omega),if_pos ⟨rfl,rfl⟩]
 have only:∀x y,cellM (den q q.length) x y≠0→y=B∧(x=A∨x=A+2):=fun x y h=>lk10 (by rw[←hd];exact h)
 rcases b.cells k.good with⟨e,-⟩|⟨-,hc,⟨x1,y1,a1,rfl⟩,⟨x2,y2,a2,e2⟩,⟨x3,y3,a3,rfl⟩,⟨x4,y4,a4,e4⟩⟩
 ·subst e;exact absurd c1 (by rw[hd] at c1 ⊢;exact fun _=>by have:=(k.den A B).symm.trans (show cellM (den ([]:List Nd) 0) A B=0 by unfold cellM;rfl);rw[this] at c1;cases c1)
 ·have b1:=hc A B (by rw[c1];omega)
  have b2:=hc (A+2) B (by rw[c2];omega)
  have k1:=only _ _ a1
  have k2:=only _ _ a2
  have k3:=only _ _ a3
  have k4:=only _ _ a4
  omega
theorem pics10 {A B:Int}(h:P10 A B){q:List Nd}(k:QuadOf (c10 A B) q):rowsM (picM (den q q.length) A B) 3 1=rows10:=by
 have e:picM (den q q.length) A B=fun r c=>lk (c10 A B) (A+c) (B+r):=by
  funext r c
  exact k.den _ _
 rw[e]
 clear e k
 rcases h with⟨rfl,rfl⟩|⟨rfl,rfl⟩
 ·show rowsM (fun r c=>lk (c10 2 3) (2+c) (3+r)) 3 1=rows10
  kernel_rfl
 ·show rowsM (fun r c=>lk (c10 0 0) (0+c) (0+r)) 3 1=rows10
  kernel_rfl
theorem go10 {A B most er X Y:Int}{L:List (List UInt8)}{q:List Nd}{n:Nat}(h:P10 A B)(k:QuadOf (c10 A B) q)(hn:q.length=n)(hm:0≤most∧most≤1000)(g:GoI q n most er X Y L) :
  (most<3→er=4)∧(3≤most→er=0∧X=A∧Y=B∧L=rows10):=by
 subst hn
 rcases g with⟨h0,-⟩|⟨-,ok,X',Y',V,H,b,h1⟩
 ·omega
 ·obtain⟨rfl,rfl,rfl,rfl⟩:=box10 k b
  rcases h1 with⟨h2,rfl,-⟩|⟨h2,rfl,rfl,rfl,rfl⟩
  ·exact⟨fun _=>rfl,fun _=>by omega⟩
  ·exact⟨fun _=>by omega,fun _=>⟨rfl,rfl,rfl,pics10 h k⟩⟩
theorem right10 {W:World}{u:Gr}{X Y:Int}(h:u.R W X Y)(e:u.L=rows10):rightG u=true:=by
 unfold rightG
 rw[canon_right9 h.x.cn,canon_right9 h.y.cn,e]
 kernel_rfl
theorem gq10 {u:Gr}{A B er:Int}{q:List Nd}(hp:P10 A B)(hr:rightG u=true)(hx:ival u.x.s u.x.xs=A)(hy:ival u.y.s u.y.xs=B)(e:u.L=rows10)(g:GqI u er q):er=0∧QuadOf (c10 A B) q:=by
 have e1:gridL u=c10 A B:=by
  unfold gridL;rw[hx,hy,e,pic10 hp]
 have k:=(g.2 hr).2
 rw[e1] at k
 exact k (least10 hp)
theorem gh10 {q p:List Nd}{n:Nat}{er:Int}(k:QuadOf (c10 2 3) q)(hn:q.length=n)(g:GhI q n 5 er p):er=0∧QuadOf (c10 0 0) p:=by
 obtain⟨e1,X,Y,L,g1,h⟩:=g
 obtain⟨rfl,-,-,rfl⟩:=(go10 (.inl ⟨rfl,rfl⟩) k hn (by omega) g1).2 (by omega)
 rcases h with⟨h,-⟩|⟨-,h⟩
 ·exact absurd rfl h
 ·exact gq10 (.inr ⟨rfl,rfl⟩) (u:=at0 rows10) (by kernel_rfl) rfl rfl rfl h
theorem bad10_right {A:Option Addr}{c:Nat}:rightG ⟨bw0,bw0,A,c,bad10⟩=false:=by
 unfold rightG
 rw[show rowsB bad10=false by kernel_rfl,Bool.and_false,Bool.and_false]
theorem few10 (X Y:Int):(picL (picS rows10) X Y (wideG rows10) rows10.length).length≤600:=Nat.le_trans (picL_len _ _ _ _ _) (by decide)
theorem few10b (X Y:Int):(picL (picS bad10) X Y (wideG bad10) bad10.length).length≤600:=Nat.le_trans (picL_len _ _ _ _ _) (by decide)
theorem bad10_ts (W:World)(o:Obj):Ts ((W.alloc o).alloc (.cells #[.string ⟨#[]⟩,.string ⟨#[120]⟩] 9)) (some ⟨W.heap.size+1,0,none⟩) 2 bad10:=by
 have h:=heap_alloc_new (W.alloc o) (.cells #[.string ⟨#[]⟩,.string ⟨#[120]⟩] 9)
 rw[World.size_alloc] at h
 exact ts_lit (L:=bad10) h (by decide) (by decide)
theorem near10 {n:Int}(h : -8≤n∧n<8) : -p2 1330≤n∧n≤p2 1330:=near9 h
theorem alive10_any (w:World):Calls Tryz.prog 6 #[] w fun e w'=>e=.returned (.bool true)∧Below w.heap.size w w':=by
 have q0:True:=trivial
 go_enter Tryz.func6,Tryz.ntmps6
 go_wp2_with (first
  | (have _t:=q0;go_at_call 22;clear _t;go_loud (refine(rbof_any 2 _ (by omega) (by omega)).mono ?_;rintro e w1 h_;obtain⟨a,rfl,r_,b_⟩:=retI_bw h_;have la:=bw_len r_ (near10 (by omega)).1 (near10 (by omega)).2;have Ra:=Lib.hid r_;have B1:=Lib.hid b_;clear h_ r_ b_;have q1:=q0;clear q0))
  | (have _t:=q1;go_at_call 22;clear _t;go_loud (refine(rbof_any 3 _ (by omega) (by omega)).mono ?_;rintro e w2 h_;obtain⟨b,rfl,r_,b_⟩:=retI_bw h_;have lb:=bw_len r_ (near10 (by omega)).1 (near10 (by omega)).2;have hal:=(Below.refl w2.heap.size w2).alloc (Nat.le_refl _) (.cells #[.string ⟨#[1,0,1]⟩] 9);have TT:=ts_lit (L:=rows10) (g:=w2.heap.size) (W:=w2.alloc (.cells #[.string ⟨#[1,0,1]⟩] 9)) (heap_alloc_new w2 _) (by decide) (by decide);have SS:=Lib.hid (Sx.box (((((Sx.start w).next B1.out).next b_).next hal).addG (u:=(Gr.mk a b (some ⟨w2.heap.size,0,none⟩) 1 rows10)) (X:=2) (Y:=3) ⟨(Ra.out.next b_).next hal,r_.next hal,TT⟩) (.cells #[.bool a.s,.slice a.a a.xs.length a.c,.bool b.s,.slice b.a b.xs.length b.c,.slice (some ⟨w2.heap.size,0,none⟩) 1 1] 34));rw[World.size_alloc] at SS;clear h_ r_ b_ hal TT;obtain⟨g0,g1,g2,g3,g4⟩:=Gr.cells (u:=(Gr.mk a b (some ⟨w2.heap.size,0,none⟩) 1 rows10)) (SS.out.bx 0 _ _ rfl);dsimp only at g0 g1 g2 g3;have g4:=show World.cell? _ _=some (.slice (some ⟨w2.heap.size,0,none⟩) 1 1) from g4;have q2:=q1;clear q1))
  | (have _t:=q2;go_at_call 15;clear _t;go_loud (refine(gquad_any (Gr.mk a b (some ⟨w2.heap.size,0,none⟩) 1 rows10) _ (SS.out.gs 0 _ _ _ rfl).u la lb (fun _=>few10 0 0)).mono ?_;rintro e w3 ⟨A3,c3,n,q,er,rfl,l_,n_,-,b_,g_⟩;have QQ:=gq10 (.inl ⟨rfl,rfl⟩) (right10 (SS.out.gs 0 _ _ _ rfl) rfl) Ra.out.v (SS.out.gs 0 _ _ _ rfl).y.v rfl g_;obtain⟨rfl,qq_⟩:=QQ;have LQ:=Lib.hid (show q.length=n∧n≤900000 from⟨l_,l_ ▸ len10 (.inl ⟨rfl,rfl⟩) qq_⟩);have QQ:=Lib.hid qq_;have SS:=Lib.hid (((SS.out.next b_).addQ n_).box (.cells #[.slice A3 n c3] 26));clear l_ n_ b_ g_ qq_;clear g0 g1 g2 g3 g4;obtain⟨g0,g1,g2,g3,g4⟩:=Gr.cells (u:=(Gr.mk a b (some ⟨w2.heap.size,0,none⟩) 1 rows10)) (SS.out.bx 0 _ _ rfl);dsimp only at g0 g1 g2 g3;have g4:=show World.cell? _ _=some (.slice (some ⟨w2.heap.size,0,none⟩) 1 1) from g4;have q0:=one_cell (SS.out.bx 1 _ _ rfl);have q3:=q2;clear q2))
  | (have _t:=q3;go_at_call 8;clear _t;go_loud (refine(gof_any A3 c3 n q 3 _ (SS.out.qs 0 _ _ _ rfl) LQ.out.1 LQ.out.2 QQ.out.good (by omega)).mono ?_;rintro e w4 ⟨u,X,Y,er,rfl,r_,lu,-,b_,g_⟩;obtain⟨rfl,rfl,rfl,lh⟩:=(go10 (.inl ⟨rfl,rfl⟩) QQ.out LQ.out.1 (by omega) g_).2 (by omega);have LH:=Lib.hid lh;have SS:=Lib.hid (((SS.out.next b_).addG r_).box u.obj);clear r_ b_ g_ lh;clear g0 g1 g2 g3 g4 q0;obtain⟨g0,g1,g2,g3,g4⟩:=Gr.cells (u:=(Gr.mk a b (some ⟨w2.heap.size,0,none⟩) 1 rows10)) (SS.out.bx 0 _ _ rfl);dsimp only at g0 g1 g2 g3;have g4:=show World.cell? _ _=some (.slice (some ⟨w2.heap.size,0,none⟩) 1 1) from g4;have q0:=one_cell (SS.out.bx 1 _ _ rfl);have q4:=q3;clear q3))
  | (have _t:=q4;go_at_call 8;clear _t;go_loud (refine(gof_any A3 c3 n q 2 _ (SS.out.qs 0 _ _ _ rfl) LQ.out.1 LQ.out.2 QQ.out.good (by omega)).mono ?_;rintro e w5 ⟨u5,X5,Y5,er,rfl,r_,-,-,b_,g_⟩;obtain rfl:=(go10 (.inl ⟨rfl,rfl⟩) QQ.out LQ.out.1 (by omega) g_).1 (by omega);have SS:=Lib.hid ((SS.out.next b_).box u5.obj);clear r_ b_ g_;clear g0 g1 g2 g3 g4 q0;obtain⟨g0,g1,g2,g3,g4⟩:=Gr.cells (u:=(Gr.mk a b (some ⟨w2.heap.size,0,none⟩) 1 rows10)) (SS.out.bx 0 _ _ rfl);dsimp only at g0 g1 g2 g3;have g4:=show World.cell? _ _=some (.slice (some ⟨w2.heap.size,0,none⟩) 1 1) from g4;have q0:=one_cell (SS.out.bx 1 _ _ rfl);have q5:=q4;clear q4))
  | (have _t:=q5;go_at_call 10;clear _t;go_loud (refine(ghome_any A3 c3 n q 5 _ (SS.out.qs 0 _ _ _ rfl) LQ.out.1 LQ.out.2 QQ.out.good (by omega) (fun er X Y L k=>by rw[((go10 (.inl ⟨rfl,rfl⟩) QQ.out LQ.out.1 (by omega) k).2 (by omega)).2.2.2];exact few10 0 0)).mono ?_;rintro e w6 ⟨A6,c6,m,p,er,rfl,l_,n_,-,b_,g_⟩;obtain⟨rfl,qq_⟩:=gh10 QQ.out LQ.out.1 g_;have LP:=Lib.hid (show p.length=m∧m≤900000 from⟨l_,l_ ▸ len10 (.inr ⟨rfl,rfl⟩) qq_⟩);have QP:=Lib.hid qq_;have SS:=Lib.hid (((SS.out.next b_).addQ n_).box (.cells #[.slice A6 m c6] 26));clear l_ n_ b_ g_ qq_;clear g0 g1 g2 g3 g4 q0;have z0:=one_cell (SS.out.bx 4 _ _ rfl);have q6:=q5;clear q5))
  | (have _t:=q6;go_at_call 8;clear _t;go_loud (refine(gof_any A6 c6 m p 5 _ (SS.out.qs 1 _ _ _ rfl) LP.out.1 LP.out.2 QP.out.good (by omega)).mono ?_;rintro e w7 ⟨v,X,Y,er,rfl,r_,lv,-,b_,g_⟩;obtain⟨rfl,rfl,rfl,lh⟩:=(go10 (.inr ⟨rfl,rfl⟩) QP.out LP.out.1 (by omega) g_).2 (by omega);have LV:=Lib.hid lh;have SS:=Lib.hid (((SS.out.next b_).addG r_).box v.obj);clear r_ b_ g_ lh;clear z0;have TB:=Lib.hid (bad10_ts w7 v.obj);have q7:=q6;clear q6))
  | (have _t:=q7;go_at_call 15;clear _t;go_loud (refine(gquad_any (Gr.mk bw0 bw0 (some ⟨w7.heap.size+1,0,none⟩) 2 bad10) ((w7.alloc v.obj).alloc (.cells #[.string ⟨#[]⟩,.string ⟨#[120]⟩] 9)) ⟨Us.nil _,Us.nil _,TB.out⟩ (Nat.zero_le _) (Nat.zero_le _) (fun _=>few10b 0 0)).mono ?_;rintro e w8 ⟨A8,c8,n8,q8,er,rfl,-,-,-,b_,g_⟩;obtain⟨rfl,rfl⟩:=g_.1 bad10_right;have SS:=Lib.hid (((SS.out.box (.cells #[.string ⟨#[]⟩,.string ⟨#[120]⟩] 9)).next b_).box (.cells #[.slice A8 n8 c8] 26));clear b_ g_;obtain⟨g0,g1,g2,g3,g4⟩:=Gr.cells (u:=(Gr.mk a b (some ⟨w2.heap.size,0,none⟩) 1 rows10)) (SS.out.bx 0 _ _ rfl);dsimp only at g0 g1 g2 g3;have g4:=show World.cell? _ _=some (.slice (some ⟨w2.heap.size,0,none⟩) 1 1) from g4;obtain⟨h0,h1,h2,h3,h4⟩:=Gr.cells (SS.out.bx 2 _ _ rfl);obtain⟨k0,k1,k2,k3,k4⟩:=Gr.cells (SS.out.bx 5 _ _ rfl);have q8:=q7;clear q7))
  | (have _t:=q8;go_at_call 12;clear _t;go_loud (refine(rgsame_any (Gr.mk a b (some ⟨w2.heap.size,0,none⟩) 1 rows10) u _ (SS.out.gs 0 _ _ _ rfl).u (SS.out.gs 1 _ _ _ rfl).u (show a.xs.length≤50000 by omega) (show b.xs.length≤50000 by omega)).mono ?_;rintro e w9 ⟨rfl,b_⟩;rw[sameG_yes (SS.out.gs 0 _ _ _ rfl) (SS.out.gs 1 _ _ _ rfl) LH.out.symm];have SS:=Lib.hid (SS.out.next b_);clear b_;clear g0 g1 g2 g3 g4 h0 h1 h2 h3 h4 k0 k1 k2 k3 k4;obtain⟨g0,g1,g2,g3,g4⟩:=Gr.cells (u:=(Gr.mk a b (some ⟨w2.heap.size,0,none⟩) 1 rows10)) (SS.out.bx 0 _ _ rfl);dsimp only at g0 g1 g2 g3;have g4:=show World.cell? _ _=some (.slice (some ⟨w2.heap.size,0,none⟩) 1 1) from g4;obtain⟨h0,h1,h2,h3,h4⟩:=Gr.cells (SS.out.bx 2 _ _ rfl);obtain⟨k0,k1,k2,k3,k4⟩:=Gr.cells (SS.out.bx 5 _ _ rfl);have q9:=q8;clear q8))
  | (have _t:=q9;go_at_call 12;clear _t;go_loud (refine(rgsame_any v (Gr.mk bw0 bw0 (some ⟨w2.heap.size,0,none⟩) 1 rows10) _ (SS.out.gs 2 _ _ _ rfl).u (at0_u (SS.out.gs 0 _ _ _ rfl).t) lv.1 lv.2).mono ?_;rintro e w10 ⟨rfl,b_⟩;rw[sameG_yes (v:=(Gr.mk bw0 bw0 (some ⟨w2.heap.size,0,none⟩) 1 rows10)) (SS.out.gs 2 _ _ _ rfl) ⟨bw0_r _,bw0_r _,(SS.out.gs 0 _ _ _ rfl).t⟩ LV.out];have SS:=Lib.hid (SS.out.next b_);clear b_;clear g0 g1 g2 g3 g4 h0 h1 h2 h3 h4 k0 k1 k2 k3 k4;obtain⟨g0,g1,g2,g3,g4⟩:=Gr.cells (u:=(Gr.mk a b (some ⟨w2.heap.size,0,none⟩) 1 rows10)) (SS.out.bx 0 _ _ rfl);dsimp only at g0 g1 g2 g3;have g4:=show World.cell? _ _=some (.slice (some ⟨w2.heap.size,0,none⟩) 1 1) from g4;obtain⟨h0,h1,h2,h3,h4⟩:=Gr.cells (SS.out.bx 2 _ _ rfl);obtain⟨k0,k1,k2,k3,k4⟩:=Gr.cells (SS.out.bx 5 _ _ rfl);have q10:=q9;clear q9))
  | (have _t:=q10;go_at_call 17;clear _t;go_loud (refine(gright_any (Gr.mk a b (some ⟨w2.heap.size,0,none⟩) 1 rows10) _ (SS.out.gs 0 _ _ _ rfl).u (show a.xs.length≤60000 by omega) (show b.xs.length≤60000 by omega)).mono ?_;rintro e w11 ⟨rfl,b_⟩;rw[right10 (SS.out.gs 0 _ _ _ rfl) rfl];have SS:=Lib.hid (SS.out.next b_);clear b_;clear g0 g1 g2 g3 g4 h0 h1 h2 h3 h4 k0 k1 k2 k3 k4;obtain⟨g0,g1,g2,g3,g4⟩:=Gr.cells (u:=(Gr.mk a b (some ⟨w2.heap.size,0,none⟩) 1 rows10)) (SS.out.bx 0 _ _ rfl);dsimp only at g0 g1 g2 g3;have g4:=show World.cell? _ _=some (.slice (some ⟨w2.heap.size,0,none⟩) 1 1) from g4;obtain⟨h0,h1,h2,h3,h4⟩:=Gr.cells (SS.out.bx 2 _ _ rfl);obtain⟨k0,k1,k2,k3,k4⟩:=Gr.cells (SS.out.bx 5 _ _ rfl);have q11:=q10;clear q10))
  | (have _t:=q11;go_at_call 19;clear _t;go_loud (refine(gsame_any (Gr.mk a b (some ⟨w2.heap.size,0,none⟩) 1 rows10) (Gr.mk a b (some ⟨w2.heap.size,0,none⟩) 1 rows10) _ (SS.out.gs 0 _ _ _ rfl).u (SS.out.gs 0 _ _ _ rfl).u (show a.xs.length≤50000 by omega) (show b.xs.length≤50000 by omega)).mono ?_;rintro e w12 ⟨rfl,b_⟩;rw[sameG_yes (SS.out.gs 0 _ _ _ rfl) (SS.out.gs 0 _ _ _ rfl) rfl];have SS:=Lib.hid (SS.out.next b_);clear b_;clear g0 g1 g2 g3 g4 h0 h1 h2 h3 h4 k0 k1 k2 k3 k4;obtain⟨g0,g1,g2,g3,g4⟩:=Gr.cells (u:=(Gr.mk a b (some ⟨w2.heap.size,0,none⟩) 1 rows10)) (SS.out.bx 0 _ _ rfl);dsimp only at g0 g1 g2 g3;have g4:=show World.cell? _ _=some (.slice (some ⟨w2.heap.size,0,none⟩) 1 1) from g4;obtain⟨h0,h1,h2,h3,h4⟩:=Gr.cells (SS.out.bx 2 _ _ rfl);obtain⟨k0,k1,k2,k3,k4⟩:=Gr.cells (SS.out.bx 5 _ _ rfl);have q12:=q11;clear q11))
  | (have _t:=q12;go_at_call 19;clear _t;go_loud (refine(gsame_any (Gr.mk a b (some ⟨w2.heap.size,0,none⟩) 1 rows10) v _ (SS.out.gs 0 _ _ _ rfl).u (SS.out.gs 2 _ _ _ rfl).u (show a.xs.length≤50000 by omega) (show b.xs.length≤50000 by omega)).mono ?_;rintro e w13 ⟨rfl,b_⟩;rw[sameG_no (SS.out.gs 0 _ _ _ rfl) (SS.out.gs 2 _ _ _ rfl) (by omega)];have SS:=Lib.hid (SS.out.next b_);clear b_;clear g0 g1 g2 g3 g4 h0 h1 h2 h3 h4 k0 k1 k2 k3 k4;obtain⟨g0,g1,g2,g3,g4⟩:=Gr.cells (u:=(Gr.mk a b (some ⟨w2.heap.size,0,none⟩) 1 rows10)) (SS.out.bx 0 _ _ rfl);dsimp only at g0 g1 g2 g3;have g4:=show World.cell? _ _=some (.slice (some ⟨w2.heap.size,0,none⟩) 1 1) from g4;obtain⟨h0,h1,h2,h3,h4⟩:=Gr.cells (SS.out.bx 2 _ _ rfl);obtain⟨k0,k1,k2,k3,k4⟩:=Gr.cells (SS.out.bx 5 _ _ rfl);have q13:=q12;clear q12)))
 go_ret
 exact⟨rfl,SS.out.b⟩
def BoxP (q:List Nd)(X Y:Int)(wide high:Nat):Prop :=
 (q=[]∧X=0∧Y=0∧wide=0∧high=0)∨(0<wide∧0<high∧∃k,BoxT (den q q.length) k X Y wide high∧(den q q.length).lv.toNat=k)
theorem BxV.boxp {q:List Nd}(hg:GoodL q){ok:Bool}{X Y V H:Int}(b:BxV q q.length ok X Y V H):BoxP q X Y V.toNat H.toNat∧0≤V∧0≤H:=by
 rcases b with⟨h0,-,rfl,rfl,rfl,rfl⟩|⟨h0,rfl,h1⟩
 ·exact⟨.inl ⟨List.length_eq_zero_iff.1 h0,rfl,rfl,rfl,rfl⟩,Int.le_refl _,Int.le_refl _⟩
 ·have hlv:=fit_lv (loose_fit hg.1 (i:=q.length-1) (by omega))
  obtain⟨m,hm⟩:∃m:Nat,(at_ q (q.length-1)).lv=(m:Int)+1:=⟨(at_ q (q.length-1)).lv.toNat-1,by omega⟩
  have hw:=wf_den hg.1 (q.length-1) (by omega)
  rw[Nat.sub_add_cancel (by omega),hm] at hw;have hne:=(hg.2 (q.length-1) (by omega)).1
  rw[Nat.sub_add_cancel (by omega)] at hne;have hn:(den q q.length).lv.toNat=(at_ q (q.length-1)).lv.toNat:=by rw[wf_lvS hw hne,hm]
  obtain⟨⟨x1,y1,a1,-⟩,-⟩:=h1.touch hn
  have hc:=h1.cell hn a1
  refine⟨.inr ⟨by omega,by omega,_,?_,hn⟩,by omega,by omega⟩
  rw[Int.toNat_of_nonneg (by omega),Int.toNat_of_nonneg (by omega)];exact h1
theorem GoI.back {q:List Nd}{n:Nat}{er X Y:Int}{R:List (List UInt8)}(hg:GoodL q)(hn:q.length=n)(g:GoI q n 40 er X Y R) :
  (er=4∧R=[])∨(er=0∧∃wide high:Nat,wide≤40∧high≤40∧BoxP q X Y wide high∧R=rowsM (picM (den q q.length) X Y) wide high):=by
 subst hn
 rcases g with⟨h0,-⟩|⟨-,ok,X',Y',V,H,b,h1⟩
 ·omega
 ·obtain⟨hb,h2,h3⟩:=b.boxp hg
  rcases h1 with⟨-,rfl,-,-,rfl⟩|⟨h4,rfl,rfl,rfl,rfl⟩
  ·exact .inl ⟨rfl,rfl⟩
  ·exact .inr ⟨rfl,_,_,by omega,by omega,hb,rfl⟩
theorem tat_rowsM (M:Int→Int→Int){k wide high:Nat}(hk:k<high):tat (rowsM M wide high) k=strM M k wide:=by
 unfold tat
 rw[rowsM_at M hk]
 rfl
theorem wide_rowsM (M:Int→Int→Int){wide high:Nat}(h:high=0→wide=0):wideG (rowsM M wide high)=wide:=by
 unfold wideG
 by_cases h0:high=0
 ·rw[h h0,h0]
  rfl
 ·rw[tat_rowsM M (by omega),strM_len]
theorem BoxP.flat {q:List Nd}{X Y:Int}{wide high:Nat}(b:BoxP q X Y wide high):high=0→wide=0:=fun h=>by
 rcases b with⟨-,-,-,h1,-⟩|⟨-,h1,-⟩
 ·exact h1
 ·omega
theorem BoxP.list {L:List Cl}{q:List Nd}{X Y:Int}{wide high:Nat}(hq:QuadOf (lastF L) q)(b:BoxP q X Y wide high) :
  picL (picS (rowsM (picM (den q q.length) X Y) wide high)) X Y wide high=lastF L:=by
 rcases b with⟨rfl,rfl,rfl,rfl,rfl⟩|⟨-,-,k,a,hk⟩
 ·exact hq.cells (lastF_srt L) fun c hc=>((lastF_spec L).2.2 c hc).1
 ·exact grid_cells hq a hk
theorem BxV.hi {q:List Nd}(hg:GoodL q){ok:Bool}{X Y V H:Int}(b:BxV q q.length ok X Y V H):(-p2 1330≤X∧X≤p2 1330)∧(-p2 1330≤Y∧Y≤p2 1330):=by
 have m1:=p2_pos 1330
 rcases b with⟨-,-,h1,h2,h3,h4⟩|⟨h0,-,h1⟩
 ·omega
 ·have hlv:=fit_lv (loose_fit hg.1 (i:=q.length-1) (by omega))
  obtain⟨m,hm⟩:∃m:Nat,(at_ q (q.length-1)).lv=(m:Int)+1:=⟨(at_ q (q.length-1)).lv.toNat-1,by omega⟩
  have hw:=wf_den hg.1 (q.length-1) (by omega)
  rw[Nat.sub_add_cancel (by omega),hm] at hw;have e1:(at_ q (q.length-1)).lv.toNat=m+1:=by omega
  rw[e1] at h1;have hw2:∀t,(fun u=>u=den q q.length) t→wfT ((m+1:Nat):Int) t:=fun t ht=>by have ht':t=den q q.length:=ht;rw[ht'];exact hw
  have a1:=h1.west.in_ hw2
  have a3:=h1.north.in_ hw2
  have m2:=p2_mono (show m+1≤1330 by omega)
  rw[Nat.add_sub_cancel] at a1 a3;have m3:=p2_succ m
  have m4:=p2_pos m
  omega
theorem BxV.lowG {q:List Nd}(hg:GoodL q){ok:Bool}{X Y V H:Int}(b:BxV q q.length ok X Y V H):X+V≤p2 1330∧Y+H≤p2 1330:=by
 have m1:=p2_pos 1330
 rcases b with⟨-,-,h1,h2,h3,h4⟩|⟨h0,-,h1⟩
 ·omega
 ·have hlv:=fit_lv (loose_fit hg.1 (i:=q.length-1) (by omega))
  obtain⟨m,hm⟩:∃m:Nat,(at_ q (q.length-1)).lv=(m:Int)+1:=⟨(at_ q (q.length-1)).lv.toNat-1,by omega⟩
  have hw:=wf_den hg.1 (q.length-1) (by omega)
  rw[Nat.sub_add_cancel (by omega),hm] at hw;have e1:(at_ q (q.length-1)).lv.toNat=m+1:=by omega
  rw[e1] at h1;have hw2:∀t,(fun u=>u=den q q.length) t→wfT ((m+1:Nat):Int) t:=fun t ht=>by have ht':t=den q q.length:=ht;rw[ht'];exact hw
  have a2:=h1.east.in_ hw2
  have a4:=h1.south.in_ hw2
  have m2:=p2_mono (show m+1≤1330 by omega)
  rw[Nat.add_sub_cancel] at a2 a4;have m3:=p2_succ m
  have m4:=p2_pos m
  omega
theorem GoI.hi {q:List Nd}{n:Nat}{most er X Y:Int}{R:List (List UInt8)}(hg:GoodL q)(hn:q.length=n)(g:GoI q n most er X Y R):(-p2 1330≤X∧X≤p2 1330)∧(-p2 1330≤Y∧Y≤p2 1330):=by
 subst hn
 have m1:=p2_pos 1330
 rcases g with⟨-,-,h1,h2,-⟩|⟨-,ok,X',Y',V,H,b,h1⟩
 ·omega
 ·have:=b.hi hg
  rcases h1 with⟨-,-,h1,h2,-⟩|⟨-,-,h1,h2,-⟩ <;> omega
structure Gk (l:List Cl)(q:List Nd)(n:Nat)(u:Gr)(X Y:Int)(wide high:Nat):Prop where
 hq:QuadOf (lastF l) q
 hn:q.length=n
 gi:GoI q n 40 0 X Y u.L
 w:wide≤40
 h:high≤40
 b:BoxP q X Y wide high
 r:u.L=rowsM (picM (den q q.length) X Y) wide high
 few:(lastF l).length≤20
 lst:leastF (lastF l)≤1329
theorem Gk.len {l:List Cl}{q:List Nd}{n:Nat}{u:Gr}{X Y:Int}{wide high:Nat}(k:Gk l q n u X Y wide high):u.L.length=high:=by rw[k.r,rowsM_len]
theorem Gk.wide_ {l:List Cl}{q:List Nd}{n:Nat}{u:Gr}{X Y:Int}{wide high:Nat}(k:Gk l q n u X Y wide high):wideG u.L=wide:=by rw[k.r,wide_rowsM _ k.b.flat]
theorem Gk.row {l:List Cl}{q:List Nd}{n:Nat}{u:Gr}{X Y:Int}{wide high:Nat}(k:Gk l q n u X Y wide high){i:Nat}(hi:i<high):tat u.L i=strM (picM (den q q.length) X Y) i wide:=by rw[k.r,tat_rowsM _ hi]
theorem Gk.list {l:List Cl}{q:List Nd}{n:Nat}{u:Gr}{X Y:Int}{wide high:Nat}(k:Gk l q n u X Y wide high):picL (picS u.L) X Y (wideG u.L) u.L.length=lastF l:=by
 rw[k.wide_,k.len,k.r]
 exact k.b.list k.hq
theorem GoI.far {q:List Nd}{n:Nat}{most er X Y:Int}{R:List (List UInt8)}(hg:GoodL q)(hn:q.length=n)(g:GoI q n most er X Y R):X+(wideG R:Int)≤p2 1330∧Y+(R.length:Int)≤p2 1330:=by
 subst hn
 have m1:=p2_pos 1330
 rcases g with⟨-,-,rfl,rfl,rfl⟩|⟨-,ok,X',Y',V,H,b,h1⟩
 ·exact⟨by rw[wideG_nil];omega,by show(0:Int)+(0:Nat)≤_;omega⟩
 ·obtain⟨hb,v0,h0⟩:=b.boxp hg
  have:=b.lowG hg
  rcases h1 with⟨-,-,rfl,rfl,rfl⟩|⟨-,-,rfl,rfl,rfl⟩
  ·exact⟨by rw[wideG_nil];omega,by show(0:Int)+(0:Nat)≤_;omega⟩
  ·rw[wide_rowsM _ hb.flat,rowsM_len];omega
theorem Gk.byte {l:List Cl}{q:List Nd}{n:Nat}{u:Gr}{X Y:Int}{wide high:Nat}(h:Gk l q n u X Y wide high){k i:Nat}(hk:k<high)(hi:i<(tat u.L k).length):getQ q (X+i) (Y+k)=(((tat u.L k)[i]).toNat:Int):=by
 have e1:=pic_str (L:=u.L) (k:=k) (i:=i) (by rw[h.len];exact hk) hi
 have hi2:=hi
 rw[h.row hk,strM_len] at hi2
 rw[←e1,h.r,picS_rowsM (fun r c=>pic_byte h.hq.good.1 X Y r c) hk hi2]
 rfl
theorem Gk.cnt {l:List Cl}{q:List Nd}{n:Nat}{u:Gr}{X Y:Int}{wide high:Nat}(h:Gk l q n u X Y wide high):(picL (picM (den q q.length) X Y) X Y wide high).length=(lastF l).length:=by
 rw[←h.list,h.wide_,h.len,h.r,picL_rowsM fun r c=>pic_byte h.hq.good.1 X Y r c]
theorem add_bw (u v:Bw){X Y:Int}(w:World)(h:u.R w X)(k:v.R w Y)(hl:u.xs.length≤60000)(kl:v.xs.length≤60000) :
  Calls Tryz.prog 21 #[u.val,v.val] w (RetI (X+Y) w):=by
 have:=rbadd_any u.s v.s u.a v.a u.c v.c u.xs v.xs w h.us k.us hl kl
 rw[h.v,k.v] at this
 exact this
theorem near40 {n:Nat}(h:n≤40) : -p2 1330≤(n:Int)∧(n:Int)≤p2 1330:=by
 have h1:=p2_mono (show 6≤1330 by omega)
 have h2:p2 6=64:=rfl
 omega
structure Gc (w W:World)(A0:Option Addr)(c0:Nat)(l:List Cv)(gq gg:Nat)(A:Option Addr)(c n:Nat)(q:List Nd)(u:Gr)(X Y:Int):Prop where
 b:Below w.heap.size w W
 cs:Cs W A0 c0 l
 qk:W.heap[gq]?=some (.cells #[.slice A n c] 26)
 gk:W.heap[gg]?=some u.obj
 r:u.R W X Y
 ns:Ns W A c q
theorem Gc.next {w W W1:World}{A0:Option Addr}{c0:Nat}{l:List Cv}{gq gg:Nat}{A:Option Addr}{c n:Nat}{q:List Nd}{u:Gr}{X Y:Int}(h:Gc w W A0 c0 l gq gg A c n q u X Y)(k:Below W.heap.size W W1):Gc w W1 A0 c0 l gq gg A c n q u X Y :=
 ⟨h.b.trans (k.mono h.b.size),h.cs.below k,(k.block _ (heapLt h.qk)).trans h.qk,(k.block _ (heapLt h.gk)).trans h.gk,h.r.next k,h.ns.below k⟩
theorem Gc.str {w W:World}{A0:Option Addr}{c0:Nat}{l:List Cv}{gq gg:Nat}{A:Option Addr}{c n:Nat}{q:List Nd}{u:Gr}{X Y:Int}(h:Gc w W A0 c0 l gq gg A c n q u X Y){b o:Nat}(e:u.a=some ⟨b,o,none⟩){k:Nat}(hk:k<u.L.length):W.cell? ⟨b,o+k,none⟩=some (strV (tat u.L k)):=by
 obtain⟨b2,o2,e2,-,hc⟩:=h.r.t.at_ (by omega)
 rw[e] at e2
 injection e2 with e2
 injection e2 with e3 e4
 subst e3
 subst e4
 exact hc k hk
theorem Gc.cells9 {w W:World}{A0:Option Addr}{c0:Nat}{l:List Cv}{gq gg:Nat}{A:Option Addr}{c n:Nat}{q:List Nd}{u:Gr}{X Y:Int}(h:Gc w W A0 c0 l gq gg A c n q u X Y){b o:Nat}(e:u.a=some ⟨b,o,none⟩){k:Nat}(hk:k<u.L.length){s:ByteArray}(hs:s=⟨(tat u.L k).toArray⟩) :
  W.cell? ⟨gq,0,none⟩=some (.slice A n c)∧W.cell? ⟨gg,0,none⟩=some (.bool u.x.s)∧W.cell? ⟨gg,1,none⟩=some (.slice u.x.a u.x.xs.length u.x.c)∧W.cell? ⟨gg,2,none⟩=some (.bool u.y.s)∧W.cell? ⟨gg,3,none⟩=some (.slice u.y.a u.y.xs.length u.y.c)∧W.cell? ⟨gg,4,none⟩=some (.slice (some ⟨b,o,none⟩) u.L.length u.c)∧W.cell? ⟨b,o+k,none⟩=some (.string s):=by
 obtain⟨c0,c1,c2,c3,c4⟩:=Gr.cells h.gk
 refine⟨one_cell h.qk,c0,c1,c2,c3,by rw[c4,e],?_⟩
 rw[h.str e hk,hs]
 rfl
theorem gcells_no
  (A:Option Addr) (c n:Nat) (l:List Cv) (w:World) (h:Cs w A c l) (hn:l.length=n) (hm:mayB l 20=false) :
  Calls Tryz.prog 5 #[.slice A n c] w fun e w'=>e=.returned (.bool true)∧Below w.heap.size w w':=by
 have HC:=Lib.hid h
 have HN:=Lib.hid hn
 have HM:=Lib.hid hm
 have q0:True:=trivial
 clear h hn hm
 go_enter Tryz.func5,Tryz.ntmps5
 go_wp2_with (first
  | (have _t:=q0;go_at_call 6;clear _t;go_loud (refine(alive10_any _).mono ?_;rintro e w1 ⟨rfl,b_⟩;have SS:=Lib.hid ((Sx.start w).next b_);have HC:=Lib.hid (HC.out.below b_);clear b_;have q1:=q0;clear q0))
  | (have _t:=q1;go_at_call 7;clear _t;go_loud (refine(rquad_any A c n 20 l _ HC.out HN.out (by omega)).mono ?_;rintro e w2 ⟨A3,c3,qn,q,ok,rfl,l_,n_,-,b_,ok_,-,-⟩;rw[HM.out] at ok_;subst ok_;have SS:=Lib.hid (SS.out.next b_);clear l_ n_ b_;have q2:=q1;clear q1)))
 go_ret
 exact⟨rfl,SS.out.b.alloc SS.out.b.size _⟩
theorem gcells_yes
  (A:Option Addr) (c n:Nat) (l:List Cv) (w:World) (h:Cs w A c l) (hn:l.length=n) (hm:mayB l 20=true) :
  Calls Tryz.prog 5 #[.slice A n c] w fun e w'=>e=.returned (.bool true)∧Below w.heap.size w w':=by
 have HC:=Lib.hid h
 have HN:=Lib.hid hn
 have HM:=Lib.hid hm
 have q0:True:=trivial
 have HL:=Lib.hid (may_iff.1 hm).2.2
 have HF:=Lib.hid (show(lastF (l.map Cv.cl)).length≤20 by
  have h1:=lastF_le (l.map Cv.cl)
  rw[List.length_map] at h1;have h2:=(may_R hm).1
  omega)
 have HR:=Lib.hid (may_R hm).2
 have hn20:n≤20:=by
  have:=(may_R hm).1
  omega
 clear h hn hm
 go_enter Tryz.func5,Tryz.ntmps5
 go_upto_if 25 with(first
  | (have _t:=q0;go_at_call 6;clear _t;go_loud (refine(alive10_any _).mono ?_;rintro e w1 ⟨rfl,b_⟩;have SS:=Lib.hid ((Sx.start w).next b_);have HC:=Lib.hid (HC.out.below b_);clear b_;have q1:=q0;clear q0))
  | (have _t:=q1;go_at_call 7;clear _t;go_loud (refine(rquad_any A c n 20 l _ HC.out HN.out (by omega)).mono ?_;rintro e w2 ⟨A3,c3,qn,q,ok,rfl,l_,n_,-,b_,ok_,-,hq_⟩;rw[HM.out] at ok_;subst ok_;have QQ:=Lib.hid (hq_ rfl);have LQ:=Lib.hid (show q.length=qn∧qn≤900000 from⟨l_,by have h1:=QQ.out.lenF.2;have h2:=HF.out;omega⟩);have HC:=Lib.hid (HC.out.below (b_.trans ((Below.refl w2.heap.size w2).alloc (Nat.le_refl _) (.cells #[.slice A3 qn c3] 26) |>.mono b_.size)));have SS:=Lib.hid (((SS.out.next b_).addQ n_).box (.cells #[.slice A3 qn c3] 26));clear l_ n_ b_ hq_;have b0:=one_cell (SS.out.bx 0 _ _ rfl);have q2:=q1;clear q1))
  | (have _t:=q2;go_at_call 8;clear _t;go_loud (refine(gof_any A3 c3 qn q 40 _ (SS.out.qs 0 _ _ _ rfl) LQ.out.1 LQ.out.2 QQ.out.good (by omega)).mono ?_;rintro e w3 ⟨u,X,Y,er,rfl,r_,-,-,b_,g_⟩;have GI:=Lib.hid g_;have HC:=Lib.hid (HC.out.below (b_.trans ((Below.refl w3.heap.size w3).alloc (Nat.le_refl _) u.obj |>.mono b_.size)));have GB:=Lib.hid (GoI.back QQ.out.good LQ.out.1 g_);have lx:=bw_len r_.x (GoI.hi QQ.out.good LQ.out.1 g_).1.1 (GoI.hi QQ.out.good LQ.out.1 g_).1.2;have ly:=bw_len r_.y (GoI.hi QQ.out.good LQ.out.1 g_).2.1 (GoI.hi QQ.out.good LQ.out.1 g_).2.2;have SS:=Lib.hid (((SS.out.next b_).addG r_).box u.obj);clear r_ b_ g_;clear b0;have b0:=one_cell (SS.out.bx 0 _ _ rfl);obtain⟨g0,g1,g2,g3,g4⟩:=Gr.cells (SS.out.bx 1 _ _ rfl);have q3:=q2;clear q2)))
 rcases GB.out with⟨rfl,hR⟩|⟨rfl,wide,high,hw,hh,hb,hR⟩
 ·clear hR;go_wp2_with fail
  go_ret
  exact⟨rfl,SS.out.b⟩
 ·clear GB;have HK:=Lib.hid (show Gk (l.map Cv.cl) q qn u X Y wide high from⟨QQ.out,LQ.out.1,GI.out,hw,hh,hb,hR,HF.out,HL.out⟩)
  clear hw hh hb hR;have hf:=GoI.far QQ.out.good LQ.out.1 GI.out
  rw[HK.out.wide_] at hf;have hi:=GoI.hi QQ.out.good LQ.out.1 GI.out
  have FAR:=Lib.hid (And.intro hf hi)
  have hl9:u.L.length≤40:=by rw[HK.out.len];exact HK.out.h
  have w9:wide≤40:=HK.out.w
  have GC:=Lib.hid (show Gc w (w3.alloc u.obj) A c l w2.heap.size w3.heap.size A3 c3 qn q u X Y from⟨SS.out.b,HC.out,SS.out.bx 0 _ _ rfl,SS.out.bx 1 _ _ rfl,SS.out.gs 0 _ _ _ rfl,SS.out.qs 0 _ _ _ rfl⟩)
  have t4:decide ((u.L.length:Int)≤40)=true:=decide_eq_true (by omega)
  clear hf hi SS HC b0;rw[show((0:Int)!=0)=false from rfl];go_wp2_with fail
  go_loopw [8,7] (fun z1 z2 wr=>∃k:Nat,z1=.int .i64 k∧z2=.int .i64 ((picL (picM (den q q.length) X Y) X Y wide k).length:Nat)∧k≤u.L.length∧Gc w wr A c l w2.heap.size w3.heap.size A3 c3 qn q u X Y) (fun z1 _ _=>u.L.length-(intOf z1).toNat)
  case atStart=>exact⟨0,rfl,rfl,Nat.zero_le _,GC.out⟩
  case round =>
   obtain⟨k,rfl,rfl,hk,hgc⟩:=hrel
   clear GC g0 g1 g2 g3 g4;have GC:=Lib.hid hgc;obtain⟨g0,g1,g2,g3,g4⟩:=Gr.cells GC.out.gk
   have kw:IntKind.i64.wrap ((k:Int)+1)=(k:Int)+1:=IntWalk.i64_in _ (by omega)
   by_cases hlt:k<u.L.length
   ·obtain⟨b2,o2,hA2,-,-⟩:=hgc.r.t.at_ (by omega)
    rw[hA2] at g4;have HA:=Lib.hid hA2;obtain⟨s,hs⟩:∃s:ByteArray,s=⟨(tat u.L k).toArray⟩:=⟨_,rfl⟩
    have s0:=(hgc.cells9 hA2 hlt hs).2.2.2.2.2.2
    have hsz:s.size=wide:=by rw[hs,str_size,HK.out.row (by rw[←HK.out.len];exact hlt),strM_len]
    have j0:(0:Int)≤(k:Int):=by omega
    have j1:(k:Int)<(u.L.length:Int):=by omega
    have j3:decide ((k:Int)<(u.L.length:Int))=true:=decide_eq_true j1
    have HS:=Lib.hid hs;have HLT:=Lib.hid hlt;have hpl:=picL_len (picM (den q q.length) X Y) X Y wide k
    have hpl2:wide*k≤40*40:=Nat.mul_le_mul w9 (by omega)
    have HPL:=Lib.hid (Nat.le_trans hpl hpl2)
    clear hs hgc hA2 hlt hpl hpl2;go_wp2_with fail
    go_loopw [9,7] (fun z1 z2 wr=>∃i:Nat,z1=.int .i64 i∧z2=.int .i64 ((picL (picM (den q q.length) X Y) X Y wide k++rowC (picM (den q q.length) X Y) X Y k i).length:Nat)∧i≤wide∧Gc w wr A c l w2.heap.size w3.heap.size A3 c3 qn q u X Y) (fun z1 _ _=>wide-(intOf z1).toNat)
    case atStart=>exact⟨0,rfl,by rw[rowC_none,List.append_nil],Nat.zero_le _,GC.out⟩
    case round =>
     obtain⟨i,rfl,rfl,hi,hgc⟩:=hrel
     clear GC g0 g1 g2 g3 g4 s0;have GC:=Lib.hid hgc;obtain⟨b0,g0,g1,g2,g3,g4,s0⟩:=hgc.cells9 HA.out HLT.out HS.out
     have iw:IntKind.i64.wrap ((i:Int)+1)=(i:Int)+1:=IntWalk.i64_in _ (by omega)
     by_cases hlt:i<wide
     ·have hlt':i<s.size:=by omega
      have hl2:i<(tat u.L k).length:=by rw[HK.out.row (by rw[←HK.out.len];exact HLT.out),strM_len];exact hlt
      have HGT:=Lib.hid (tx_get hlt')
      have hby:=HK.out.byte (k:=k) (i:=i) (by rw[←HK.out.len];exact HLT.out) hl2
      rw[←str_at HS.out hlt' hl2] at hby;obtain⟨bt,hbt⟩:∃b,b=(s[i]'hlt').toNat:=⟨_,rfl⟩
      have HG:=Lib.hid hby;have NI:=Lib.hid (near40 (show i≤40 by omega))
      have NK:=Lib.hid (near40 (show k≤40 by have:=HLT.out;omega))
      have NX:=Lib.hid (show(-p2 1330≤X+(i:Int)∧X+(i:Int)≤p2 1330)∧(-p2 1330≤Y+(k:Int)∧Y+(k:Int)≤p2 1330) by
       have h1:=FAR.out
       have h2:=HLT.out
       omega)
      have HI:=Lib.hid hlt;have i0:(0:Int)≤(i:Int):=by omega
      have x1:(i:Int)<(s.size:Int):=by omega
      have x3:decide ((i:Int)<(s.size:Int))=true:=decide_eq_true x1
      have x4:decide ((i:Int)≤40)=true:=decide_eq_true (by omega)
      have u1:((((s[i]'hlt').toNat:Nat):Int)!=(((s[i]'hlt').toNat:Nat):Int))=false:=bne_self_eq_false _
      have HPR:=Lib.hid (show(picL (picM (den q q.length) X Y) X Y wide k++rowC (picM (den q q.length) X Y) X Y k i).length≤1640 by
       rw[List.length_append];have h1:=rowC_len (picM (den q q.length) X Y) X Y k i
       have h2:=HPL.out
       omega)
      have nw:IntKind.i64.wrap (((picL (picM (den q q.length) X Y) X Y wide k++rowC (picM (den q q.length) X Y) X Y k i).length:Int)+1)=((picL (picM (den q q.length) X Y) X Y wide k++rowC (picM (den q q.length) X Y) X Y k i).length:Int)+1:=IntWalk.i64_in _ (by have:=HPR.out;omega)
      have nw2:IntKind.i64.wrap (((picL (picM (den q q.length) X Y) X Y wide k).length:Int)+((rowC (picM (den q q.length) X Y) X Y k i).length:Int)+1)=((picL (picM (den q q.length) X Y) X Y wide k).length:Int)+((rowC (picM (den q q.length) X Y) X Y k i).length:Int)+1:=IntWalk.i64_in _ (by have:=HPR.out;rw[List.length_append] at this;omega)
      have HM9:=Lib.hid (show(picM (den q q.length) X Y) k i=(((s[i]'hlt').toNat:Nat):Int) from hby)
      obtain⟨W0,hW0⟩:∃W0:World,W0=wr.drew:=⟨_,rfl⟩
      have P0:=Lib.hid (hgc.next (Below.drew' (Below.refl _ _)))
      rw[←hW0] at P0;clear hby hbt hgc hi hl2 GC;go_wp2_with fail
      refine wp_region_noPanic ?_
      refine wp_region_held (S:=fun w'=>w'.cell? ⟨w2.heap.size,0,none⟩=some (.slice A3 qn c3)∧w'.cell? ⟨w3.heap.size,0,none⟩=some (.bool u.x.s)∧w'.cell? ⟨w3.heap.size,1,none⟩=some (.slice u.x.a u.x.xs.length u.x.c)∧w'.cell? ⟨w3.heap.size,2,none⟩=some (.bool u.y.s)∧w'.cell? ⟨w3.heap.size,3,none⟩=some (.slice u.y.a u.y.xs.length u.y.c)∧w'.cell? ⟨w3.heap.size,4,none⟩=some (.slice (some ⟨b2,o2,none⟩) u.L.length u.c)∧w'.cell? ⟨b2,o2+k,none⟩=some (.string s)) (by kernel_rfl) ?_
      change wpAnyH _ _ _ _ _ _ _ _ wr.drew
      rw[←hW0];clear hW0 b0 g0 g1 g2 g3 g4 s0;have hS0:=P0.out.cells9 HA.out HLT.out HS.out
      refine wpAnyH_take (i:=0) (v:=?_) rfl (by kernel_rfl) (by kernel_rfl) (by kernel_rfl) (fun _ _ _ h=>h) (Or.inl ⟨by rfl,?_⟩) hS0 ?_
      rotate_left
      ·rintro w' ⟨s0_,s1_,s2_,s3_,s4_,s5_,s6_⟩
       go_simp
       first|done|with_reducible rfl|rfl
      simp only[Act.put,LA]
      refine wpAnyH_take (i:=1) (v:=?_) rfl (by kernel_rfl) (by kernel_rfl) (by kernel_rfl) (fun _ _ _ h=>h) (Or.inl ⟨by rfl,?_⟩) hS0 ?_
      rotate_left
      ·rintro w' ⟨s0_,s1_,s2_,s3_,s4_,s5_,s6_⟩
       go_simp
       first|done|with_reducible rfl|rfl
      simp only[Act.put,LA]
      refine wpAnyH_take (i:=2) (v:=?_) rfl (by kernel_rfl) (by kernel_rfl) (by kernel_rfl) (fun _ _ _ h=>h) (Or.inl ⟨by rfl,?_⟩) hS0 ?_
      rotate_left
      ·rintro w' ⟨s0_,s1_,s2_,s3_,s4_,s5_,s6_⟩
       go_simp
       first|done|with_reducible rfl|rfl
      simp only[Act.put,LA]
      refine wpAnyH_take (i:=3) (v:=?_) rfl (by kernel_rfl) (by kernel_rfl) (by kernel_rfl) (fun _ _ _ h=>h) (Or.inl ⟨by rfl,?_⟩) hS0 ?_
      rotate_left
      ·rintro w' ⟨s0_,s1_,s2_,s3_,s4_,s5_,s6_⟩
       go_simp
       first|done|with_reducible rfl|rfl
      simp only[Act.put,LA]
      refine wpAnyH_take (i:=4) (v:=?_) rfl (by kernel_rfl) (by kernel_rfl) (by kernel_rfl) (fun _ _ _ h=>h) (Or.inl ⟨by rfl,?_⟩) hS0 ?_
      rotate_left
      ·rintro w' ⟨s0_,s1_,s2_,s3_,s4_,s5_,s6_⟩
       go_simp
       first|done|with_reducible rfl|rfl
      simp only[Act.put,LA]
      refine wpAnyH_take (i:=5) (v:=?_) rfl (by kernel_rfl) (by kernel_rfl) (by kernel_rfl) (fun _ _ _ h=>h) (Or.inl ⟨by rfl,?_⟩) hS0 ?_
      rotate_left
      ·rintro w' ⟨s0_,s1_,s2_,s3_,s4_,s5_,s6_⟩
       go_simp
       first|done|with_reducible rfl|rfl
      simp only[Act.put,LA]
      refine wpAnyH_take (i:=6) (v:=?_) rfl (by kernel_rfl) (by kernel_rfl) (by kernel_rfl) (fun _ _ _ h=>h) (Or.inl ⟨by rfl,?_⟩) hS0 ?_
      rotate_left
      ·rintro w' ⟨s0_,s1_,s2_,s3_,s4_,s5_,s6_⟩
       go_simp
       first|done|with_reducible rfl|rfl
      simp only[Act.put,LA]
      refine wpAnyH_take (i:=7) (v:=?_) rfl (by kernel_rfl) (by kernel_rfl) (by kernel_rfl) (fun _ _ _ h=>h) (Or.inl ⟨by rfl,?_⟩) hS0 ?_
      rotate_left
      ·rintro w' ⟨s0_,s1_,s2_,s3_,s4_,s5_,s6_⟩
       go_simp
       first|done|with_reducible rfl|rfl
      simp only[Act.put,LA]
      refine wpAnyH_take (i:=8) (v:=?_) rfl (by kernel_rfl) (by kernel_rfl) (by kernel_rfl) (fun _ _ _ h=>h) (Or.inl ⟨by rfl,?_⟩) hS0 ?_
      rotate_left
      ·rintro w' ⟨s0_,s1_,s2_,s3_,s4_,s5_,s6_⟩
       go_simp
       first|done|with_reducible rfl|rfl
      simp only[Act.put,LA]
      refine wpAnyH_take (i:=9) (v:=?_) rfl (by kernel_rfl) (by kernel_rfl) (by kernel_rfl) (fun _ _ _ h=>h) (Or.inl ⟨by rfl,?_⟩) hS0 ?_
      rotate_left
      ·rintro w' ⟨s0_,s1_,s2_,s3_,s4_,s5_,s6_⟩
       go_simp
       first|done|with_reducible rfl|rfl
      simp only[Act.put,LA]
      refine wpAnyH_take (i:=10) (v:=?_) rfl (by kernel_rfl) (by kernel_rfl) (by kernel_rfl) (fun _ _ _ h=>h) (Or.inl ⟨by rfl,?_⟩) hS0 ?_
      rotate_left
      ·rintro w' ⟨s0_,s1_,s2_,s3_,s4_,s5_,s6_⟩
       go_simp
       first|done|with_reducible rfl|rfl
      simp only[Act.put,LA]
      refine wpAnyH_take (i:=13) (v:=?_) rfl (by kernel_rfl) (by kernel_rfl) (by kernel_rfl) (fun _ _ _ h=>h) (Or.inl ⟨by rfl,?_⟩) hS0 ?_
      rotate_left
      ·rintro w' ⟨s0_,s1_,s2_,s3_,s4_,s5_,s6_⟩
       go_simp
       first|done|with_reducible rfl|rfl
      simp only[Act.put,LA]
      refine wpAnyH_take (i:=14) (v:=?_) rfl (by kernel_rfl) (by kernel_rfl) (by kernel_rfl) (fun _ _ _ h=>h) (Or.inl ⟨by rfl,?_⟩) hS0 ?_
      rotate_left
      ·rintro w' ⟨s0_,s1_,s2_,s3_,s4_,s5_,s6_⟩
       go_simp
       first|done|with_reducible rfl|rfl
      simp only[Act.put,LA]
      refine wpAnyH_take (i:=15) (v:=?_) rfl (by kernel_rfl) (by kernel_rfl) (by kernel_rfl) (fun _ _ _ h=>h) (Or.inl ⟨by rfl,?_⟩) hS0 ?_
      rotate_left
      ·rintro w' ⟨s0_,s1_,s2_,s3_,s4_,s5_,s6_⟩
       go_simp
       first|done|with_reducible rfl|rfl
      simp only[Act.put,LA]
      refine wpAnyH_ready (rs:=[11]) (by kernel_rfl) (by simp) (AllReadyH.cons rfl (fun K hK=>?_) AllReadyH.nil)
      go_simp
      refine(rbof_any (i:Int) _ (by omega) (by omega)).mono ?_
      rintro e v1 h_
      obtain⟨a,rfl,ra,b_⟩:=retI_bw h_
      have RA:=Lib.hid ra;have P1:=Lib.hid (P0.out.next b_)
      clear ra h_;dsimp only
      have hS1:=P1.out.cells9 HA.out HLT.out HS.out
      refine hK.out _ _ hS1 (fun _=>?_)
      clear hK K b_;refine wpAnyH_ready (rs:=[12]) (by kernel_rfl) (by simp) (AllReadyH.cons rfl (fun K hK=>?_) AllReadyH.nil)
      go_simp
      refine(add_bw u.x a _ P1.out.r.x RA.out (by omega) (by have:=bw_len RA.out NI.out.1 NI.out.2;omega)).mono ?_
      rintro e v2 h_
      obtain⟨x9,rfl,rx,b_⟩:=retI_bw h_
      have RX:=Lib.hid rx;have P2:=Lib.hid (P1.out.next b_)
      clear rx h_;dsimp only
      have hS2:=P2.out.cells9 HA.out HLT.out HS.out
      refine hK.out _ _ hS2 (fun _=>?_)
      clear hK K b_;refine wpAnyH_ready (rs:=[16]) (by kernel_rfl) (by simp) (AllReadyH.cons rfl (fun K hK=>?_) AllReadyH.nil)
      go_simp
      refine(rbof_any (k:Int) _ (by omega) (by omega)).mono ?_
      rintro e v3 h_
      obtain⟨b,rfl,rb,b_⟩:=retI_bw h_
      have RB:=Lib.hid rb;have RX:=Lib.hid (RX.out.next b_)
      have P3:=Lib.hid (P2.out.next b_)
      clear rb h_;dsimp only
      have hS3:=P3.out.cells9 HA.out HLT.out HS.out
      refine hK.out _ _ hS3 (fun _=>?_)
      clear hK K b_;refine wpAnyH_ready (rs:=[17]) (by kernel_rfl) (by simp) (AllReadyH.cons rfl (fun K hK=>?_) AllReadyH.nil)
      go_simp
      refine(add_bw u.y b _ P3.out.r.y RB.out (by omega) (by have:=bw_len RB.out NK.out.1 NK.out.2;omega)).mono ?_
      rintro e v4 h_
      obtain⟨y9,rfl,ry,b_⟩:=retI_bw h_
      have RY:=Lib.hid ry;have RX:=Lib.hid (RX.out.next b_)
      have P4:=Lib.hid (P3.out.next b_)
      clear ry h_;dsimp only
      have hS4:=P4.out.cells9 HA.out HLT.out HS.out
      refine hK.out _ _ hS4 (fun _=>?_)
      clear hK K b_;refine wpAnyH_ready (rs:=[18]) (by kernel_rfl) (by simp) (AllReadyH.cons rfl (fun K hK=>?_) AllReadyH.nil)
      go_simp
      refine(rget_lk A3 c3 qn q x9 y9 (X+i) (Y+k) _ P4.out.ns LQ.out.1 LQ.out.2 QQ.out.good.1 RX.out RY.out (by have:=bw_len RX.out NX.out.1.1 NX.out.1.2;omega) (by have:=bw_len RY.out NX.out.2.1 NX.out.2.2;omega)).mono ?_
      rintro e v5 ⟨rfl,b_⟩
      rw[HG.out];have P5:=Lib.hid (P4.out.next b_)
      dsimp only
      have hS5:=P5.out.cells9 HA.out HLT.out HS.out
      refine hK.out _ _ hS5 (fun _=>?_)
      clear hK K b_;refine wpAnyH_take (i:=19) (v:=?_) rfl (by kernel_rfl) (by kernel_rfl) (by kernel_rfl) (fun _ _ _ h=>h) (Or.inl ⟨by rfl,?_⟩) hS5 ?_
      rotate_left
      ·rintro w' ⟨s0_,s1_,s2_,s3_,s4_,s5_,s6_⟩
       go_simp
       first|done|with_reducible rfl|rfl
      simp only[Act.put,LA]
      refine wpAnyH_done (by kernel_rfl) ?_ _
      refine NoPanic.normal ?_
      obtain⟨b0,g0,g1,g2,g3,g4,s0⟩:=P5.out.cells9 HA.out HLT.out HS.out
      by_cases hz:(s[i]'hlt').toNat=0
      ·have nz:((((s[i]'hlt').toNat:Nat):Int)!=0)=false:=by rw[hz];rfl
       have HZ:=Lib.hid (show(picM (den q q.length) X Y) k i=0 by rw[HM9.out,hz];rfl)
       clear hz;go_wp2_with fail
       go_roundw
       case rel=>exact⟨i+1,by go_num,by(have h1:(rowC (picM (den q q.length) X Y) X Y k (i+1)).length=(rowC (picM (den q q.length) X Y) X Y k i).length:=by rw[rowC_more,if_pos HZ.out,List.append_nil]);rw[List.length_append,h1];go_num,by have:=HI.out;omega,P5.out⟩
       case measure=>have:=HI.out;simp[intOf];omega
      ·have nz:((((s[i]'hlt').toNat:Nat):Int)!=0)=true:=by rw[bne_iff_ne];omega
       have HZ:=Lib.hid (show ¬ (picM (den q q.length) X Y) k i=0 by rw[HM9.out];omega)
       clear hz;go_wp2_with fail
       go_roundw
       case rel=>exact⟨i+1,by go_num,by(have h1:(rowC (picM (den q q.length) X Y) X Y k (i+1)).length=(rowC (picM (den q q.length) X Y) X Y k i).length+1:=by rw[rowC_more,if_neg HZ.out,List.length_append];rfl);rw[List.length_append,h1];go_num,by have:=HI.out;omega,P5.out⟩
       case measure=>have:=HI.out;simp[intOf];omega
     ·have e:i=wide:=by omega
      subst e;have t9:decide ((i:Int)<(s.size:Int))=false:=decide_eq_false (by omega)
      have t10:decide (i<s.size)=false:=decide_eq_false (by omega)
      have t11:(i<s.size)=False:=eq_false (by omega)
      clear hgc hlt;go_wp2_with fail
      go_roundw
      case rel=>exact⟨k+1,by go_num,by rw[picL_more],by have:=HLT.out;omega,GC.out⟩
      case measure=>have:=HLT.out;simp[intOf];omega
   ·have e:k=u.L.length:=by omega
    have t9:decide ((k:Int)<(u.L.length:Int))=false:=decide_eq_false (by omega)
    have t10:decide (k<u.L.length)=false:=decide_eq_false hlt
    have t11:(k<u.L.length)=False:=eq_false hlt
    have HE:=Lib.hid e;clear hgc hlt e;go_wp2_with (go_at_call 23;go_loud (refine(rclast_any A c n l _ GC.out.cs HN.out HR.out (by omega)).mono ?_;rintro e w5 ⟨v5,M5,rfl,ml5,in5,o5,b_⟩;obtain⟨A5,c5,hv5,cs5,-,-⟩:=o5.cs (fun u hu=>(GC.out.cs.below b_).1 u (in5 u hu));subst hv5;have cp5:=cs5.cap;have GC:=Lib.hid (GC.out.next b_);have EQ:=Lib.hid (show((picL (picM (den q q.length) X Y) X Y wide k).length:Int)=(M5.length:Int) from by rw[HE.out,HK.out.len,HK.out.cnt,←ml5,List.length_map]);have u9:(((picL (picM (den q q.length) X Y) X Y wide k).length:Int)==(M5.length:Int))=true:=by rw[EQ.out];exact beq_self_eq_true _))
    go_ret
    exact⟨rfl,GC.out.b⟩
theorem gcells_law (A:Option Addr)(c:Nat)(l:List Cv)(w:World)(h:Cs w A c l) :
  Calls Tryz.prog 5 #[.slice A l.length c] w fun e w'=>e=.returned (.bool true)∧Below w.heap.size w w':=by
 cases hm:mayB l 20 with
 | false=>exact gcells_no A c _ l w h rfl hm
 | true=>exact gcells_yes A c _ l w h rfl hm
end Go.Proofs.YtikehjindobpkaaGreat
