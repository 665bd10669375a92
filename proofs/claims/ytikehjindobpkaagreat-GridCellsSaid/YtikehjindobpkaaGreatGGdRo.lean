import Derived.Test.YtikehjindobpkaaGreatGGdY

set_option linter.unusedVariables false
set_option linter.unusedSimpArgs false
set_option maxRecDepth 100000
set_option maxHeartbeats 6400000
namespace Go.Proofs.YtikehjindobpkaaGreat
open Go.RowKit Num Nds
structure Sx (w W:World)(K:List (Nat × Obj))(G:List (Gr × Int × Int))(Q:List (Option Addr × Nat × List Nd)):Prop where
 b:Below w.heap.size w W
 bx:∀(i g:Nat) (o:Obj),K[i]?=some (g,o)→W.heap[g]?=some o
 gs:∀(i:Nat) (u:Gr) (X Y:Int),G[i]?=some (u,X,Y)→u.R W X Y
 qs:∀(i:Nat) (A:Option Addr) (c:Nat) (q:List Nd),Q[i]?=some (A,c,q)→Ns W A c q
theorem Sx.start (w:World):Sx w w [] [] []:=⟨Below.refl _ _,fun i g o h=>by simp at h,fun i u X Y h=>by simp at h,fun i A c q h=>by simp at h⟩
theorem Sx.next {w W W1:World}{K:List (Nat × Obj)}{G:List (Gr × Int × Int)}{Q:List (Option Addr × Nat × List Nd)}(s:Sx w W K G Q)(k:Below W.heap.size W W1):Sx w W1 K G Q :=
 ⟨s.b.trans (k.mono s.b.size),fun i g o h=>(k.block _ (zac (s.bx i g o h))).trans (s.bx i g o h),fun i u X Y h=>(s.gs i u X Y h).next k,fun i A c q h=>(s.qs i A c q h).below k⟩
theorem zli {α:Type}{l:List α}{x y:α}{i:Nat}(h:(l++[x])[i]?=some y):l[i]?=some y∨y=x:=by
 rw[List.getElem?_append] at h;split at h
 ·exact .inl h
 ·refine .inr ?_;have:=List.mem_of_getElem? h;exact(List.mem_singleton.1 this)
theorem Sx.box {w W:World}{K:List (Nat × Obj)}{G:List (Gr × Int × Int)}{Q:List (Option Addr × Nat × List Nd)}(s:Sx w W K G Q)(o:Obj):Sx w (W.alloc o) (K++[(W.heap.size,o)]) G Q:=by
 have t:=s.next ((Below.refl W.heap.size W).alloc (Nat.le_refl _) o);refine⟨t.b,fun i g o' h=>?_,t.gs,t.qs⟩;rcases zli h with h|h
 ·exact t.bx i g o' h
 ·cases h;exact heap_alloc_new W o
theorem Sx.addG {w W:World}{K:List (Nat × Obj)}{G:List (Gr × Int × Int)}{Q:List (Option Addr × Nat × List Nd)}(s:Sx w W K G Q){u:Gr}{X Y:Int}(h:u.R W X Y):Sx w W K (G++[(u,X,Y)]) Q:=by
 refine⟨s.b,s.bx,fun i u' X' Y' k=>?_,s.qs⟩;rcases zli k with k|k
 ·exact s.gs i u' X' Y' k
 ·cases k;exact h
theorem Sx.addQ {w W:World}{K:List (Nat × Obj)}{G:List (Gr × Int × Int)}{Q:List (Option Addr × Nat × List Nd)}(s:Sx w W K G Q){A:Option Addr}{c:Nat}{q:List Nd}(h:Ns W A c q):Sx w W K G (Q++[(A,c,q)]):=by
 refine⟨s.b,s.bx,s.gs,fun i A' c' q' k=>?_⟩;rcases zli k with k|k
 ·exact s.qs i A' c' q' k
 ·cases k;exact h
theorem ztk {W:World}{g:Nat}{L:List (List UInt8)}(hb:W.heap[g]?=some (.cells (L.map strV).toArray 9))(hl:∀r∈L,r.length≤maxLen)(hn:L.length≤maxLen):Ts W (some ⟨g,0,none⟩) L.length L :=
 ⟨hl,by simp,hn,fun _=>⟨g,0,rfl,zac hb,fun j u hu=>by
  rw[cell_of_row _ _ _ _ _ _ hb,Nat.zero_add];simpa using hu⟩⟩
theorem zfi {W:World}{u v:Gr}{X Y:Int}(h:u.R W X Y)(k:v.R W X Y)(e:u.L=v.L):ziY u v=true:=by
 unfold ziY;rw[decide_eq_true (zuU h.x.us.1 k.x.us.1 h.x.cn k.x.cn (h.x.v.trans k.x.v.symm)),decide_eq_true (zuU h.y.us.1 k.y.us.1 h.y.cn k.y.cn (h.y.v.trans k.y.v.symm)),decide_eq_true e];rfl
theorem zss {W:World}{u v:Gr}{X Y X' Y':Int}(h:u.R W X Y)(k:v.R W X' Y')(e:X≠X'):ziY u v=false:=by
 unfold ziY;rw[decide_eq_false fun h1=>e (by rw[←h.x.v,←k.x.v,h1.1,h1.2])];rfl
def zaL:List (List UInt8):=[[1,0,1]]
def zkb:List (List UInt8):=[[],[120]]
def c10 (A B:Int):List Cl:=[⟨A,B,1⟩,⟨A+2,B,1⟩]
def P10 (A B:Int):Prop:=(A=2∧B=3)∨(A=0∧B=0)
theorem zws {A B:Int}(h:P10 A B):picL (picS zaL) A B (zaC zaL) zaL.length=c10 A B:=by
 rcases h with⟨rfl,rfl⟩|⟨rfl,rfl⟩ <;> kernel_rfl
theorem ztl {A B:Int}(h:P10 A B):zau (c10 A B)=c10 A B:=by
 rcases h with⟨rfl,rfl⟩|⟨rfl,rfl⟩ <;> kernel_rfl
theorem zuL {A B:Int}(h:P10 A B):zaz (c10 A B)≤1329:=by
 rcases h with⟨rfl,rfl⟩|⟨rfl,rfl⟩
 ·have h:decide (zaz (c10 2 3)≤1329)=true:=by kernel_rfl
  exact of_decide_eq_true h
 ·have h:decide (zaz (c10 0 0)≤1329)=true:=by kernel_rfl
  exact of_decide_eq_true h
theorem zvM {A B:Int}(h:P10 A B){q:List Nd}(k:zaP (c10 A B) q):q.length≤900000:=by
 rw[←ztl h] at k;have:=k.lenF.2;rw[ztl h] at this;exact Nat.le_trans this (show 1329*2≤900000 by omega)
theorem lk10 {A B x y:Int}(h:lk (c10 A B) x y≠0):y=B∧(x=A∨x=A+2):=by
 unfold c10 lk lk lk at h;dsimp only at h;split at h
 ·rename_i h1;omega
 ·split at h
  ·rename_i h1;omega
  ·exact absurd rfl h
theorem zwt {A B:Int}{q:List Nd}(k:zaP (c10 A B) q){ok:Bool}{X Y V H:Int}(b:BxV q q.length ok X Y V H):X=A∧Y=B∧V=3∧H=1:=by
 have hd:=k.den;have c1:zaH (den q q.length) A B=1:=by
  rw[hd];unfold c10 lk;rw[if_pos ⟨rfl,rfl⟩]
 have c2:zaH (den q q.length) (A+2) B=1:=by
  rw[hd];unfold c10 lk lk;rw[if_neg (by dsimp only;omega),if_pos ⟨rfl,rfl⟩]
 have only:∀x y,zaH (den q q.length) x y≠0→y=B∧(x=A∨x=A+2):=fun x y h=>lk10 (by rw[←hd];exact h);rcases b.cells k.good with⟨e,-⟩|⟨-,hc,⟨x1,y1,a1,rfl⟩,⟨x2,y2,a2,e2⟩,⟨x3,y3,a3,rfl⟩,⟨x4,y4,a4,e4⟩⟩
 ·subst e;exact absurd c1 (by rw[hd] at c1 ⊢;exact fun _=>by have:=(k.den A B).symm.trans (show zaH (den ([]:List Nd) 0) A B=0 by unfold zaH;rfl);rw[this] at c1;cases c1)
 ·have b1:=hc A B (by rw[c1];omega);have b2:=hc (A+2) B (by rw[c2];omega);have k1:=only _ _ a1;have k2:=only _ _ a2;have k3:=only _ _ a3;have k4:=only _ _ a4;omega
theorem zvN {A B:Int}(h:P10 A B){q:List Nd}(k:zaP (c10 A B) q):zbz (picM (den q q.length) A B) 3 1=zaL:=by
 have e:picM (den q q.length) A B=fun r c=>lk (c10 A B) (A+c) (B+r):=by
  funext r c;exact k.den _ _
 rw[e];clear e k;rcases h with⟨rfl,rfl⟩|⟨rfl,rfl⟩
 ·show zbz (fun r c=>lk (c10 2 3) (2+c) (3+r)) 3 1=zaL;kernel_rfl
 ·show zbz (fun r c=>lk (c10 0 0) (0+c) (0+r)) 3 1=zaL;kernel_rfl
theorem go10 {A B most er X Y:Int}{L:List (List UInt8)}{q:List Nd}{n:Nat}(h:P10 A B)(k:zaP (c10 A B) q)(hn:q.length=n)(hm:0≤most∧most≤1000)(g:GoI q n most er X Y L) :
  (most<3→er=4)∧(3≤most→er=0∧X=A∧Y=B∧L=zaL):=by
 subst hn;rcases g with⟨h0,-⟩|⟨-,ok,X',Y',V,H,b,h1⟩
 ·omega
 ·obtain⟨rfl,rfl,rfl,rfl⟩:=zwt k b;rcases h1 with⟨h2,rfl,-⟩|⟨h2,rfl,rfl,rfl,rfl⟩
  ·exact⟨fun _=>rfl,fun _=>by omega⟩
  ·exact⟨fun _=>by omega,fun _=>⟨rfl,rfl,rfl,zvN h k⟩⟩
theorem zqz {W:World}{u:Gr}{X Y:Int}(h:u.R W X Y)(e:u.L=zaL):zbb u=true:=by
 unfold zbb;rw[zcI h.x.cn,zcI h.y.cn,e];kernel_rfl
theorem gq10 {u:Gr}{A B er:Int}{q:List Nd}(hp:P10 A B)(hr:zbb u=true)(hx:ival u.x.s u.x.xs=A)(hy:ival u.y.s u.y.xs=B)(e:u.L=zaL)(g:GqI u er q):er=0∧zaP (c10 A B) q:=by
 have e1:ziX u=c10 A B:=by
  unfold ziX;rw[hx,hy,e,zws hp]
 have k:=(g.2 hr).2;rw[e1] at k;exact k (zuL hp)
theorem gh10 {q p:List Nd}{n:Nat}{er:Int}(k:zaP (c10 2 3) q)(hn:q.length=n)(g:GhI q n 5 er p):er=0∧zaP (c10 0 0) p:=by
 obtain⟨e1,X,Y,L,g1,h⟩:=g;obtain⟨rfl,-,-,rfl⟩:=(go10 (.inl ⟨rfl,rfl⟩) k hn (by omega) g1).2 (by omega);rcases h with⟨h,-⟩|⟨-,h⟩
 ·exact absurd rfl h
 ·exact gq10 (.inr ⟨rfl,rfl⟩) (u:=at0 zaL) (by kernel_rfl) rfl rfl rfl h
theorem zlj {A:Option Addr}{c:Nat}:zbb ⟨bw0,bw0,A,c,zkb⟩=false:=by
 unfold zbb;rw[show zch zkb=false by kernel_rfl,Bool.and_false,Bool.and_false]
theorem zvO (X Y:Int):(picL (picS zaL) X Y (zaC zaL) zaL.length).length≤600:=Nat.le_trans (zdl _ _ _ _ _) (by decide)
theorem zvP (X Y:Int):(picL (picS zkb) X Y (zaC zkb) zkb.length).length≤600:=Nat.le_trans (zdl _ _ _ _ _) (by decide)
theorem zst (W:World)(o:Obj):Ts ((W.alloc o).alloc (.cells #[.string ⟨#[]⟩,.string ⟨#[120]⟩] 9)) (some ⟨W.heap.size+1,0,none⟩) 2 zkb:=by
 have h:=heap_alloc_new (W.alloc o) (.cells #[.string ⟨#[]⟩,.string ⟨#[120]⟩] 9);rw[World.size_alloc] at h;exact ztk (L:=zkb) h (by decide) (by decide)
theorem zmv {n:Int}(h : -8≤n∧n<8) : -p2 1330≤n∧n≤p2 1330:=zwn h
theorem zbm (w:World):Calls Tryz.prog 6 #[] w fun e w'=>e=.returned (.bool true)∧Below w.heap.size w w':=by
 have q0:True:=trivial;go_enter Tryz.func6,Tryz.ntmps6;go_wp2_with (first
  | (have _t:=q0;go_at_call 22;clear _t;go_loud (refine(zbn 2 _ (by omega) (by omega)).mono ?_;rintro e w1 h_;obtain⟨a,rfl,r_,b_⟩:=zah h_;have la:=zaA r_ (zmv (by omega)).1 (zmv (by omega)).2;have Ra:=Hh r_;have B1:=Hh b_;clear h_ r_ b_;have q1:=q0;clear q0))
  | (have _t:=q1;go_at_call 22;clear _t;go_loud (refine(zbn 3 _ (by omega) (by omega)).mono ?_;rintro e w2 h_;obtain⟨b,rfl,r_,b_⟩:=zah h_;have lb:=zaA r_ (zmv (by omega)).1 (zmv (by omega)).2;have hal:=(Below.refl w2.heap.size w2).alloc (Nat.le_refl _) (.cells #[.string ⟨#[1,0,1]⟩] 9);have TT:=ztk (L:=zaL) (g:=w2.heap.size) (W:=w2.alloc (.cells #[.string ⟨#[1,0,1]⟩] 9)) (heap_alloc_new w2 _) (by decide) (by decide);have SS:=Hh (Sx.box (((((Sx.start w).next B1.out).next b_).next hal).addG (u:=(Gr.mk a b (some ⟨w2.heap.size,0,none⟩) 1 zaL)) (X:=2) (Y:=3) ⟨(Ra.out.next b_).next hal,r_.next hal,TT⟩) (.cells #[.bool a.s,.slice a.a a.xs.length a.c,.bool b.s,.slice b.a b.xs.length b.c,.slice (some ⟨w2.heap.size,0,none⟩) 1 1] 34));rw[World.size_alloc] at SS;clear h_ r_ b_ hal TT;obtain⟨g0,g1,g2,g3,g4⟩:=Gr.cells (u:=(Gr.mk a b (some ⟨w2.heap.size,0,none⟩) 1 zaL)) (SS.out.bx 0 _ _ rfl);dsimp only at g0 g1 g2 g3;have g4:=show World.cell? _ _=some (.slice (some ⟨w2.heap.size,0,none⟩) 1 1) from g4;have q2:=q1;clear q1))
  | (have _t:=q2;go_at_call 15;clear _t;go_loud (refine(zfh (Gr.mk a b (some ⟨w2.heap.size,0,none⟩) 1 zaL) _ (SS.out.gs 0 _ _ _ rfl).u la lb (fun _=>zvO 0 0)).mono ?_;rintro e w3 ⟨A3,c3,n,q,er,rfl,l_,n_,-,b_,g_⟩;have QQ:=gq10 (.inl ⟨rfl,rfl⟩) (zqz (SS.out.gs 0 _ _ _ rfl) rfl) Ra.out.v (SS.out.gs 0 _ _ _ rfl).y.v rfl g_;obtain⟨rfl,qq_⟩:=QQ;have LQ:=Hh (show q.length=n∧n≤900000 from⟨l_,l_ ▸ zvM (.inl ⟨rfl,rfl⟩) qq_⟩);have QQ:=Hh qq_;have SS:=Hh (((SS.out.next b_).addQ n_).box (.cells #[.slice A3 n c3] 26));clear l_ n_ b_ g_ qq_;clear g0 g1 g2 g3 g4;obtain⟨g0,g1,g2,g3,g4⟩:=Gr.cells (u:=(Gr.mk a b (some ⟨w2.heap.size,0,none⟩) 1 zaL)) (SS.out.bx 0 _ _ rfl);dsimp only at g0 g1 g2 g3;have g4:=show World.cell? _ _=some (.slice (some ⟨w2.heap.size,0,none⟩) 1 1) from g4;have q0:=zaa (SS.out.bx 1 _ _ rfl);have q3:=q2;clear q2))
  | (have _t:=q3;go_at_call 8;clear _t;go_loud (refine(zfC A3 c3 n q 3 _ (SS.out.qs 0 _ _ _ rfl) LQ.out.1 LQ.out.2 QQ.out.good (by omega)).mono ?_;rintro e w4 ⟨u,X,Y,er,rfl,r_,lu,-,b_,g_⟩;obtain⟨rfl,rfl,rfl,lh⟩:=(go10 (.inl ⟨rfl,rfl⟩) QQ.out LQ.out.1 (by omega) g_).2 (by omega);have LH:=Hh lh;have SS:=Hh (((SS.out.next b_).addG r_).box u.obj);clear r_ b_ g_ lh;clear g0 g1 g2 g3 g4 q0;obtain⟨g0,g1,g2,g3,g4⟩:=Gr.cells (u:=(Gr.mk a b (some ⟨w2.heap.size,0,none⟩) 1 zaL)) (SS.out.bx 0 _ _ rfl);dsimp only at g0 g1 g2 g3;have g4:=show World.cell? _ _=some (.slice (some ⟨w2.heap.size,0,none⟩) 1 1) from g4;have q0:=zaa (SS.out.bx 1 _ _ rfl);have q4:=q3;clear q3))
  | (have _t:=q4;go_at_call 8;clear _t;go_loud (refine(zfC A3 c3 n q 2 _ (SS.out.qs 0 _ _ _ rfl) LQ.out.1 LQ.out.2 QQ.out.good (by omega)).mono ?_;rintro e w5 ⟨u5,X5,Y5,er,rfl,r_,-,-,b_,g_⟩;obtain rfl:=(go10 (.inl ⟨rfl,rfl⟩) QQ.out LQ.out.1 (by omega) g_).1 (by omega);have SS:=Hh ((SS.out.next b_).box u5.obj);clear r_ b_ g_;clear g0 g1 g2 g3 g4 q0;obtain⟨g0,g1,g2,g3,g4⟩:=Gr.cells (u:=(Gr.mk a b (some ⟨w2.heap.size,0,none⟩) 1 zaL)) (SS.out.bx 0 _ _ rfl);dsimp only at g0 g1 g2 g3;have g4:=show World.cell? _ _=some (.slice (some ⟨w2.heap.size,0,none⟩) 1 1) from g4;have q0:=zaa (SS.out.bx 1 _ _ rfl);have q5:=q4;clear q4))
  | (have _t:=q5;go_at_call 10;clear _t;go_loud (refine(zka A3 c3 n q 5 _ (SS.out.qs 0 _ _ _ rfl) LQ.out.1 LQ.out.2 QQ.out.good (by omega) (fun er X Y L k=>by rw[((go10 (.inl ⟨rfl,rfl⟩) QQ.out LQ.out.1 (by omega) k).2 (by omega)).2.2.2];exact zvO 0 0)).mono ?_;rintro e w6 ⟨A6,c6,m,p,er,rfl,l_,n_,-,b_,g_⟩;obtain⟨rfl,qq_⟩:=gh10 QQ.out LQ.out.1 g_;have LP:=Hh (show p.length=m∧m≤900000 from⟨l_,l_ ▸ zvM (.inr ⟨rfl,rfl⟩) qq_⟩);have QP:=Hh qq_;have SS:=Hh (((SS.out.next b_).addQ n_).box (.cells #[.slice A6 m c6] 26));clear l_ n_ b_ g_ qq_;clear g0 g1 g2 g3 g4 q0;have z0:=zaa (SS.out.bx 4 _ _ rfl);have q6:=q5;clear q5))
  | (have _t:=q6;go_at_call 8;clear _t;go_loud (refine(zfC A6 c6 m p 5 _ (SS.out.qs 1 _ _ _ rfl) LP.out.1 LP.out.2 QP.out.good (by omega)).mono ?_;rintro e w7 ⟨v,X,Y,er,rfl,r_,lv,-,b_,g_⟩;obtain⟨rfl,rfl,rfl,lh⟩:=(go10 (.inr ⟨rfl,rfl⟩) QP.out LP.out.1 (by omega) g_).2 (by omega);have LV:=Hh lh;have SS:=Hh (((SS.out.next b_).addG r_).box v.obj);clear r_ b_ g_ lh;clear z0;have TB:=Hh (zst w7 v.obj);have q7:=q6;clear q6))
  | (have _t:=q7;go_at_call 15;clear _t;go_loud (refine(zfh (Gr.mk bw0 bw0 (some ⟨w7.heap.size+1,0,none⟩) 2 zkb) ((w7.alloc v.obj).alloc (.cells #[.string ⟨#[]⟩,.string ⟨#[120]⟩] 9)) ⟨Us.nil _,Us.nil _,TB.out⟩ (Nat.zero_le _) (Nat.zero_le _) (fun _=>zvP 0 0)).mono ?_;rintro e w8 ⟨A8,c8,n8,q8,er,rfl,-,-,-,b_,g_⟩;obtain⟨rfl,rfl⟩:=g_.1 zlj;have SS:=Hh (((SS.out.box (.cells #[.string ⟨#[]⟩,.string ⟨#[120]⟩] 9)).next b_).box (.cells #[.slice A8 n8 c8] 26));clear b_ g_;obtain⟨g0,g1,g2,g3,g4⟩:=Gr.cells (u:=(Gr.mk a b (some ⟨w2.heap.size,0,none⟩) 1 zaL)) (SS.out.bx 0 _ _ rfl);dsimp only at g0 g1 g2 g3;have g4:=show World.cell? _ _=some (.slice (some ⟨w2.heap.size,0,none⟩) 1 1) from g4;obtain⟨h0,h1,h2,h3,h4⟩:=Gr.cells (SS.out.bx 2 _ _ rfl);obtain⟨k0,k1,k2,k3,k4⟩:=Gr.cells (SS.out.bx 5 _ _ rfl);have q8:=q7;clear q7))
  | (have _t:=q8;go_at_call 12;clear _t;go_loud (refine(zei (Gr.mk a b (some ⟨w2.heap.size,0,none⟩) 1 zaL) u _ (SS.out.gs 0 _ _ _ rfl).u (SS.out.gs 1 _ _ _ rfl).u (show a.xs.length≤50000 by omega) (show b.xs.length≤50000 by omega)).mono ?_;rintro e w9 ⟨rfl,b_⟩;rw[zfi (SS.out.gs 0 _ _ _ rfl) (SS.out.gs 1 _ _ _ rfl) LH.out.symm];have SS:=Hh (SS.out.next b_);clear b_;clear g0 g1 g2 g3 g4 h0 h1 h2 h3 h4 k0 k1 k2 k3 k4;obtain⟨g0,g1,g2,g3,g4⟩:=Gr.cells (u:=(Gr.mk a b (some ⟨w2.heap.size,0,none⟩) 1 zaL)) (SS.out.bx 0 _ _ rfl);dsimp only at g0 g1 g2 g3;have g4:=show World.cell? _ _=some (.slice (some ⟨w2.heap.size,0,none⟩) 1 1) from g4;obtain⟨h0,h1,h2,h3,h4⟩:=Gr.cells (SS.out.bx 2 _ _ rfl);obtain⟨k0,k1,k2,k3,k4⟩:=Gr.cells (SS.out.bx 5 _ _ rfl);have q9:=q8;clear q8))
  | (have _t:=q9;go_at_call 12;clear _t;go_loud (refine(zei v (Gr.mk bw0 bw0 (some ⟨w2.heap.size,0,none⟩) 1 zaL) _ (SS.out.gs 2 _ _ _ rfl).u (zuK (SS.out.gs 0 _ _ _ rfl).t) lv.1 lv.2).mono ?_;rintro e w10 ⟨rfl,b_⟩;rw[zfi (v:=(Gr.mk bw0 bw0 (some ⟨w2.heap.size,0,none⟩) 1 zaL)) (SS.out.gs 2 _ _ _ rfl) ⟨zfy _,zfy _,(SS.out.gs 0 _ _ _ rfl).t⟩ LV.out];have SS:=Hh (SS.out.next b_);clear b_;clear g0 g1 g2 g3 g4 h0 h1 h2 h3 h4 k0 k1 k2 k3 k4;obtain⟨g0,g1,g2,g3,g4⟩:=Gr.cells (u:=(Gr.mk a b (some ⟨w2.heap.size,0,none⟩) 1 zaL)) (SS.out.bx 0 _ _ rfl);dsimp only at g0 g1 g2 g3;have g4:=show World.cell? _ _=some (.slice (some ⟨w2.heap.size,0,none⟩) 1 1) from g4;obtain⟨h0,h1,h2,h3,h4⟩:=Gr.cells (SS.out.bx 2 _ _ rfl);obtain⟨k0,k1,k2,k3,k4⟩:=Gr.cells (SS.out.bx 5 _ _ rfl);have q10:=q9;clear q9))
  | (have _t:=q10;go_at_call 17;clear _t;go_loud (refine(zef (Gr.mk a b (some ⟨w2.heap.size,0,none⟩) 1 zaL) _ (SS.out.gs 0 _ _ _ rfl).u (show a.xs.length≤60000 by omega) (show b.xs.length≤60000 by omega)).mono ?_;rintro e w11 ⟨rfl,b_⟩;rw[zqz (SS.out.gs 0 _ _ _ rfl) rfl];have SS:=Hh (SS.out.next b_);clear b_;clear g0 g1 g2 g3 g4 h0 h1 h2 h3 h4 k0 k1 k2 k3 k4;obtain⟨g0,g1,g2,g3,g4⟩:=Gr.cells (u:=(Gr.mk a b (some ⟨w2.heap.size,0,none⟩) 1 zaL)) (SS.out.bx 0 _ _ rfl);dsimp only at g0 g1 g2 g3;have g4:=show World.cell? _ _=some (.slice (some ⟨w2.heap.size,0,none⟩) 1 1) from g4;obtain⟨h0,h1,h2,h3,h4⟩:=Gr.cells (SS.out.bx 2 _ _ rfl);obtain⟨k0,k1,k2,k3,k4⟩:=Gr.cells (SS.out.bx 5 _ _ rfl);have q11:=q10;clear q10))
  | (have _t:=q11;go_at_call 19;clear _t;go_loud (refine(zhl (Gr.mk a b (some ⟨w2.heap.size,0,none⟩) 1 zaL) (Gr.mk a b (some ⟨w2.heap.size,0,none⟩) 1 zaL) _ (SS.out.gs 0 _ _ _ rfl).u (SS.out.gs 0 _ _ _ rfl).u (show a.xs.length≤50000 by omega) (show b.xs.length≤50000 by omega)).mono ?_;rintro e w12 ⟨rfl,b_⟩;rw[zfi (SS.out.gs 0 _ _ _ rfl) (SS.out.gs 0 _ _ _ rfl) rfl];have SS:=Hh (SS.out.next b_);clear b_;clear g0 g1 g2 g3 g4 h0 h1 h2 h3 h4 k0 k1 k2 k3 k4;obtain⟨g0,g1,g2,g3,g4⟩:=Gr.cells (u:=(Gr.mk a b (some ⟨w2.heap.size,0,none⟩) 1 zaL)) (SS.out.bx 0 _ _ rfl);dsimp only at g0 g1 g2 g3;have g4:=show World.cell? _ _=some (.slice (some ⟨w2.heap.size,0,none⟩) 1 1) from g4;obtain⟨h0,h1,h2,h3,h4⟩:=Gr.cells (SS.out.bx 2 _ _ rfl);obtain⟨k0,k1,k2,k3,k4⟩:=Gr.cells (SS.out.bx 5 _ _ rfl);have q12:=q11;clear q11))
  | (have _t:=q12;go_at_call 19;clear _t;go_loud (refine(zhl (Gr.mk a b (some ⟨w2.heap.size,0,none⟩) 1 zaL) v _ (SS.out.gs 0 _ _ _ rfl).u (SS.out.gs 2 _ _ _ rfl).u (show a.xs.length≤50000 by omega) (show b.xs.length≤50000 by omega)).mono ?_;rintro e w13 ⟨rfl,b_⟩;rw[zss (SS.out.gs 0 _ _ _ rfl) (SS.out.gs 2 _ _ _ rfl) (by omega)];have SS:=Hh (SS.out.next b_);clear b_;clear g0 g1 g2 g3 g4 h0 h1 h2 h3 h4 k0 k1 k2 k3 k4;obtain⟨g0,g1,g2,g3,g4⟩:=Gr.cells (u:=(Gr.mk a b (some ⟨w2.heap.size,0,none⟩) 1 zaL)) (SS.out.bx 0 _ _ rfl);dsimp only at g0 g1 g2 g3;have g4:=show World.cell? _ _=some (.slice (some ⟨w2.heap.size,0,none⟩) 1 1) from g4;obtain⟨h0,h1,h2,h3,h4⟩:=Gr.cells (SS.out.bx 2 _ _ rfl);obtain⟨k0,k1,k2,k3,k4⟩:=Gr.cells (SS.out.bx 5 _ _ rfl);have q13:=q12;clear q12)))
 go_ret;exact⟨rfl,SS.out.b⟩
def BoxP (q:List Nd)(X Y:Int)(wide high:Nat):Prop :=
 (q=[]∧X=0∧Y=0∧wide=0∧high=0)∨(0<wide∧0<high∧∃k,BoxT (den q q.length) k X Y wide high∧(den q q.length).lv.toNat=k)
theorem BxV.boxp {q:List Nd}(hg:zao q){ok:Bool}{X Y V H:Int}(b:BxV q q.length ok X Y V H):BoxP q X Y V.toNat H.toNat∧0≤V∧0≤H:=by
 rcases b with⟨h0,-,rfl,rfl,rfl,rfl⟩|⟨h0,rfl,h1⟩
 ·exact⟨.inl ⟨List.length_eq_zero_iff.1 h0,rfl,rfl,rfl,rfl⟩,Int.le_refl _,Int.le_refl _⟩
 ·have hlv:=zaJ (zai hg.1 (i:=q.length-1) (by omega));obtain⟨m,hm⟩:∃m:Nat,(at_ q (q.length-1)).lv=(m:Int)+1:=⟨(at_ q (q.length-1)).lv.toNat-1,by omega⟩;have hw:=zbK hg.1 (q.length-1) (by omega);rw[Nat.sub_add_cancel (by omega),hm] at hw;have hne:=(hg.2 (q.length-1) (by omega)).1;rw[Nat.sub_add_cancel (by omega)] at hne;have hn:(den q q.length).lv.toNat=(at_ q (q.length-1)).lv.toNat:=by rw[zqg hw hne,hm]
  obtain⟨⟨x1,y1,a1,-⟩,-⟩:=h1.touch hn;have hc:=h1.cell hn a1;refine⟨.inr ⟨by omega,by omega,_,?_,hn⟩,by omega,by omega⟩;rw[Int.toNat_of_nonneg (by omega),Int.toNat_of_nonneg (by omega)];exact h1
theorem GoI.back {q:List Nd}{n:Nat}{er X Y:Int}{R:List (List UInt8)}(hg:zao q)(hn:q.length=n)(g:GoI q n 40 er X Y R) :
  (er=4∧R=[])∨(er=0∧∃wide high:Nat,wide≤40∧high≤40∧BoxP q X Y wide high∧R=zbz (picM (den q q.length) X Y) wide high):=by
 subst hn;rcases g with⟨h0,-⟩|⟨-,ok,X',Y',V,H,b,h1⟩
 ·omega
 ·obtain⟨hb,h2,h3⟩:=b.boxp hg;rcases h1 with⟨-,rfl,-,-,rfl⟩|⟨h4,rfl,rfl,rfl,rfl⟩
  ·exact .inl ⟨rfl,rfl⟩
  ·exact .inr ⟨rfl,_,_,by omega,by omega,hb,rfl⟩
theorem zkc (M:Int→Int→Int){k wide high:Nat}(hk:k<high):tat (zbz M wide high) k=strM M k wide:=by
 unfold tat;rw[zmq M hk];rfl
theorem zfD (M:Int→Int→Int){wide high:Nat}(h:high=0→wide=0):zaC (zbz M wide high)=wide:=by
 unfold zaC;by_cases h0:high=0
 ·rw[h h0,h0];rfl
 ·rw[zkc M (by omega),zbD]
theorem BoxP.flat {q:List Nd}{X Y:Int}{wide high:Nat}(b:BoxP q X Y wide high):high=0→wide=0:=fun h=>by
 rcases b with⟨-,-,-,h1,-⟩|⟨-,h1,-⟩
 ·exact h1
 ·omega
theorem BoxP.list {L:List Cl}{q:List Nd}{X Y:Int}{wide high:Nat}(hq:zaP (zau L) q)(b:BoxP q X Y wide high) :
  picL (picS (zbz (picM (den q q.length) X Y) wide high)) X Y wide high=zau L:=by
 rcases b with⟨rfl,rfl,rfl,rfl,rfl⟩|⟨-,-,k,a,hk⟩
 ·exact hq.cells (zcB L) fun c hc=>((zbp L).2.2 c hc).1
 ·exact zny hq a hk
theorem BxV.hi {q:List Nd}(hg:zao q){ok:Bool}{X Y V H:Int}(b:BxV q q.length ok X Y V H):(-p2 1330≤X∧X≤p2 1330)∧(-p2 1330≤Y∧Y≤p2 1330):=by
 have m1:=zam 1330;rcases b with⟨-,-,h1,h2,h3,h4⟩|⟨h0,-,h1⟩
 ·omega
 ·have hlv:=zaJ (zai hg.1 (i:=q.length-1) (by omega));obtain⟨m,hm⟩:∃m:Nat,(at_ q (q.length-1)).lv=(m:Int)+1:=⟨(at_ q (q.length-1)).lv.toNat-1,by omega⟩;have hw:=zbK hg.1 (q.length-1) (by omega);rw[Nat.sub_add_cancel (by omega),hm] at hw;have e1:(at_ q (q.length-1)).lv.toNat=m+1:=by omega
  rw[e1] at h1;have hw2:∀t,(fun u=>u=den q q.length) t→wfT ((m+1:Nat):Int) t:=fun t ht=>by have ht':t=den q q.length:=ht;rw[ht'];exact hw
  have a1:=h1.west.in_ hw2;have a3:=h1.north.in_ hw2;have m2:=zar (show m+1≤1330 by omega);rw[Nat.add_sub_cancel] at a1 a3;have m3:=zal m;have m4:=zam m;omega
theorem BxV.lowG {q:List Nd}(hg:zao q){ok:Bool}{X Y V H:Int}(b:BxV q q.length ok X Y V H):X+V≤p2 1330∧Y+H≤p2 1330:=by
 have m1:=zam 1330;rcases b with⟨-,-,h1,h2,h3,h4⟩|⟨h0,-,h1⟩
 ·omega
 ·have hlv:=zaJ (zai hg.1 (i:=q.length-1) (by omega));obtain⟨m,hm⟩:∃m:Nat,(at_ q (q.length-1)).lv=(m:Int)+1:=⟨(at_ q (q.length-1)).lv.toNat-1,by omega⟩;have hw:=zbK hg.1 (q.length-1) (by omega);rw[Nat.sub_add_cancel (by omega),hm] at hw;have e1:(at_ q (q.length-1)).lv.toNat=m+1:=by omega
  rw[e1] at h1;have hw2:∀t,(fun u=>u=den q q.length) t→wfT ((m+1:Nat):Int) t:=fun t ht=>by have ht':t=den q q.length:=ht;rw[ht'];exact hw
  have a2:=h1.east.in_ hw2;have a4:=h1.south.in_ hw2;have m2:=zar (show m+1≤1330 by omega);rw[Nat.add_sub_cancel] at a2 a4;have m3:=zal m;have m4:=zam m;omega
theorem GoI.hi {q:List Nd}{n:Nat}{most er X Y:Int}{R:List (List UInt8)}(hg:zao q)(hn:q.length=n)(g:GoI q n most er X Y R):(-p2 1330≤X∧X≤p2 1330)∧(-p2 1330≤Y∧Y≤p2 1330):=by
 subst hn;have m1:=zam 1330;rcases g with⟨-,-,h1,h2,-⟩|⟨-,ok,X',Y',V,H,b,h1⟩
 ·omega
 ·have:=b.hi hg;rcases h1 with⟨-,-,h1,h2,-⟩|⟨-,-,h1,h2,-⟩ <;> omega
structure Gk (l:List Cl)(q:List Nd)(n:Nat)(u:Gr)(X Y:Int)(wide high:Nat):Prop where
 hq:zaP (zau l) q
 hn:q.length=n
 gi:GoI q n 40 0 X Y u.L
 w:wide≤40
 h:high≤40
 b:BoxP q X Y wide high
 r:u.L=zbz (picM (den q q.length) X Y) wide high
 few:(zau l).length≤20
 lst:zaz (zau l)≤1329
theorem Gk.len {l:List Cl}{q:List Nd}{n:Nat}{u:Gr}{X Y:Int}{wide high:Nat}(k:Gk l q n u X Y wide high):u.L.length=high:=by rw[k.r,zcb]
theorem Gk.wide_ {l:List Cl}{q:List Nd}{n:Nat}{u:Gr}{X Y:Int}{wide high:Nat}(k:Gk l q n u X Y wide high):zaC u.L=wide:=by rw[k.r,zfD _ k.b.flat]
theorem Gk.row {l:List Cl}{q:List Nd}{n:Nat}{u:Gr}{X Y:Int}{wide high:Nat}(k:Gk l q n u X Y wide high){i:Nat}(hi:i<high):tat u.L i=strM (picM (den q q.length) X Y) i wide:=by rw[k.r,zkc _ hi]
theorem Gk.list {l:List Cl}{q:List Nd}{n:Nat}{u:Gr}{X Y:Int}{wide high:Nat}(k:Gk l q n u X Y wide high):picL (picS u.L) X Y (zaC u.L) u.L.length=zau l:=by
 rw[k.wide_,k.len,k.r];exact k.b.list k.hq
def ziZ (M:Int→Int→Int)(k wide x:Nat):List Value:=(List.range wide).map fun(i:Nat)=>if i<x then .int .u8 (M k i) else .int .u8 0
theorem znC (M:Int→Int→Int)(k wide:Nat):ziZ M k wide 0=List.replicate wide (.int .u8 0):=by
 unfold ziZ;refine List.ext_getElem? fun j=>?_;by_cases hj:j<wide
 ·rw[List.getElem?_map,List.getElem?_range hj,List.getElem?_replicate,if_pos hj];rfl
 ·rw[List.getElem?_eq_none (by simpa using hj),List.getElem?_eq_none (by simpa using hj)]
theorem zqA (M:Int→Int→Int)(k wide:Nat):ziZ M k wide wide=zdJ M k wide:=by
 unfold ziZ zdJ;refine List.map_congr_left fun i hi=>?_;rw[if_pos (List.mem_range.1 hi)]
theorem zqB (M:Int→Int→Int)(k:Nat){wide x:Nat}(hx:x<wide):(ziZ M k wide x).set x (.int .u8 (M k x))=ziZ M k wide (x+1):=by
 unfold ziZ;refine List.ext_getElem? fun j=>?_;by_cases hj:j<wide
 ·rw[List.getElem?_set];by_cases e:x=j
  ·subst e;rw[if_pos rfl,if_pos (by simpa using hj),List.getElem?_map,List.getElem?_range hj];show _=some (if x<x+1 then _ else _);rw[if_pos (by omega)]
  ·rw[if_neg e,List.getElem?_map,List.getElem?_range hj,List.getElem?_map,List.getElem?_range hj];show some (if j<x then _ else _)=some (if j<x+1 then _ else _);by_cases h1:j<x
   ·rw[if_pos h1,if_pos (by omega)]
   ·rw[if_neg h1,if_neg (by omega)]
 ·rw[List.getElem?_eq_none (by simpa using hj),List.getElem?_eq_none (by simpa using hj)]
theorem znD (M:Int→Int→Int)(wide k:Nat):zbz M wide (k+1)=zbz M wide k++[strM M k wide]:=by
 unfold zbz;rw[List.range_succ,List.map_append];rfl
theorem zqC {base g wide k:Nat}{M:Int→Int→Int}{W:World}(h:W.ownsRow base 5 1 (.slice (some ⟨g,0,none⟩) wide wide) wide (zdJ M k wide))(hM:∀r c,0≤M r c∧M r c≤255) :
  (convert 60 9 (.slice (some ⟨g,0,none⟩) wide wide)).run Tryz.prog W=.ok (.string ⟨(strM M k wide).toArray⟩) W:=by
 have:=run_convert_bytes_back (P:=Tryz.prog) W 60 9 5 ⟨g,0,none⟩ wide (strM M k wide) Tryz.underlying60 Tryz.underlying5 Tryz.underlying9 (fun j hj=>?_)
 ·rw[zbD] at this;exact this
 ·rw[zbD] at hj;have e:=(h.cellAt j (by omega)).trans (zgm (M:=M) (k:=k) hj);have e2:=zlb M (k:=k) hj;rw[List.getElem?_eq_getElem (by rw[zbD];exact hj)] at e2;injection e2 with e2
  have e3:(⟨g,0,none⟩:Addr).add j=⟨g,j,none⟩:=by unfold Addr.add;split <;> simp_all
  rw[e3,e,e2,zhh (hM k j)]
structure Rb (w:World)(A:Option Addr)(n c:Nat)(q:List Nd)(g6:Nat)(u:Xb)(X Y V H:Int)(W:World):Prop where
 o:Oo w A n c q W
 ub:W.heap[g6]?=some u.obj
 r:u.R W X Y V H
theorem Rb.next {w W W':World}{A:Option Addr}{n c:Nat}{q:List Nd}{g6:Nat}{u:Xb}{X Y V H:Int}(h:Rb w A n c q g6 u X Y V H W)(k:Below W.heap.size W W'):Rb w A n c q g6 u X Y V H W' :=
 ⟨h.o.next k,(k.block _ (zac h.ub)).trans h.ub,h.r.next k⟩
theorem Rb.cells {w W:World}{A:Option Addr}{n c:Nat}{q:List Nd}{g6:Nat}{u:Xb}{X Y V H:Int}(h:Rb w A n c q g6 u X Y V H W) :
  W.cell? ⟨w.heap.size,0,none⟩=some (.slice A n c)∧W.cell? ⟨g6,0,none⟩=some (.bool u.x.s)∧W.cell? ⟨g6,1,none⟩=some (.slice u.x.a u.x.xs.length u.x.c)∧W.cell? ⟨g6,2,none⟩=some (.bool u.y.s)∧W.cell? ⟨g6,3,none⟩=some (.slice u.y.a u.y.xs.length u.y.c):=by
 obtain⟨c0,c1,c2,c3,-⟩:=Xb.cells h.ub;exact⟨zaa h.o.qk,c0,c1,c2,c3⟩
structure Rf (W8:World)(M:Int→Int→Int)(u:Xb)(wide k:Nat)(a:Option Addr)(c:Nat)(W:World):Prop where
 bb:Below W8.heap.size W8 W
 gk:W.heap[W8.heap.size]?=some (.cells #[.bool u.x.s,.slice u.x.a u.x.xs.length u.x.c,.bool u.y.s,.slice u.y.a u.y.xs.length u.y.c,.slice a k c] 34)
 own:W.ownsRow (W8.heap.size+1) 9 1 (.slice a k c) k ((zbz M wide k).map strV)
section
variable {W8 W W':World} {M:Int→Int→Int} {u:Xb} {wide k:Nat} {a:Option Addr} {c:Nat}
theorem Rf.next (h:Rf W8 M u wide k a c W)(b:Below W.heap.size W W'):Rf W8 M u wide k a c W' :=
 ⟨h.bb.trans (b.mono h.bb.size),(b.block _ (zac h.gk)).trans h.gk,h.own.kept (gbX b) (by cases hv:(Value.slice a k c).ownBlock <;> simp)⟩
theorem Rf.set (h:Rf W8 M u wide k a c W){p:Addr}(hp:W8.heap.size<p.block)(ho:∀j,(Value.slice a k c).ownBlock=some j→j≠p.block)(v:Value):Rf W8 M u wide k a c (W.setCell p v) :=
 ⟨h.bb.trans ((Below.refl _ _).setCell (Nat.le_of_lt hp) v),(heap_setCell_other W p _ v (by omega)).trans h.gk,ownsRow_setCell_other h.own (a:=p) (fun e=>ho _ e rfl) v⟩
theorem Rf.grid (h:Rf W8 M u wide k a c W):W.heap[W8.heap.size]?=some (Gr.mk u.x u.y a c (zbz M wide k)).obj:=by
 rw[h.gk];show _=some (Obj.cells #[_,_,_,_,.slice a (zbz M wide k).length c] _ _);rw[zcb]
theorem Rf.cells (h:Rf W8 M u wide k a c W):W.cell? ⟨W8.heap.size,0,none⟩=some (.bool u.x.s)∧W.cell? ⟨W8.heap.size,1,none⟩=some (.slice u.x.a u.x.xs.length u.x.c)∧W.cell? ⟨W8.heap.size,2,none⟩=some (.bool u.y.s)∧W.cell? ⟨W8.heap.size,3,none⟩=some (.slice u.y.a u.y.xs.length u.y.c)∧W.cell? ⟨W8.heap.size,4,none⟩=some (.slice a k c):=by
 obtain⟨c0,c1,c2,c3,c4⟩:=Gr.cells h.grid;rw[zcb] at c4;exact⟨c0,c1,c2,c3,c4⟩
theorem Rf.more (h:Rf W8 M u wide k a c W){a':Option Addr}{c':Nat}(o:W'.ownsRow (W8.heap.size+1) 9 1 (.slice a' (k+1) c') (k+1) ((zbz M wide (k+1)).map strV))(g:W.grownBy W' (Value.slice a k c).ownBlock) :
  Rf W8 M u wide (k+1) a' c' (W'.setCell ⟨W8.heap.size,4,none⟩ (.slice a' (k+1) c')):=by
 have hne:(Value.slice a k c).ownBlock≠some W8.heap.size:=fun e=>by have:=(h.own.lt _ e).1;omega
 have hg:W'.heap[W8.heap.size]?=_:=(g.block _ (zac h.gk) (fun e=>hne e.symm)).trans h.gk;have hb:Below W8.heap.size W8 W':=h.bb.grown g (Nat.le_of_lt (zac h.gk)) (fun j hj=>by have:=(h.own.lt _ hj).1;omega);refine⟨hb.setCell (p:=⟨W8.heap.size,4,none⟩) (Nat.le_refl _) _,(heap_setCell_same W' _ 4 _ _ _ hg).trans rfl,ownsRow_setCell_other o (a:=⟨W8.heap.size,4,none⟩) (fun e=>?_) _⟩;have h9:=(o.lt W8.heap.size e).1;omega
end
theorem znE {w:World}{base:Nat}{e:TypeId}{size:Nat}{v:Value}{n:Nat}{xs:List Value}(h:w.ownsRow base e size v n xs):∃A c,v=.slice A n c:=by
 rcases h.2 with⟨h',hn⟩|⟨g,cap,cur,h',hb,hg,hnc,hcm,hcs,htake⟩
 ·exact⟨none,0,by rw[h',hn]⟩
 ·exact⟨some ⟨g,0,none⟩,cap,h'⟩
theorem zsu {w:World}{base:Nat}{e:TypeId}{size n c:Nat}{A:Option Addr}{xs:List Value}(h:w.ownsRow base e size (.slice A n c) n xs)(e:A=none):c=0:=by
 rcases h.2 with⟨h',hn⟩|⟨g,cap,cur,h',hb,hg,hnc,hcm,hcs,htake⟩
 ·simp at h';exact h'.2.2
 ·subst e;simp at h'
theorem Rf.at9 {W8 W W':World}{M:Int→Int→Int}{u:Xb}{wide k:Nat}{a:Option Addr}{c:Nat}{o:Obj}(h:Rf W8 M u wide k a c W)(g:(W.alloc o).grownBy W' (Value.slice a k c).ownBlock) :
  W'.cell? ⟨W8.heap.size,4,none⟩=some (.slice a k c)∧W'.frozen? ⟨W8.heap.size,4,none⟩=false:=by
 have hne:(Value.slice a k c).ownBlock≠some W8.heap.size:=fun e=>by have:=(h.own.lt _ e).1;omega
 have h1:=h.next ((Below.refl _ W).alloc (Nat.le_refl _) o);have h2:=(g.block _ (zac h1.gk) (fun e=>hne e.symm)).trans h1.gk;exact⟨(cell_of_row W' _ 4 _ _ (0,0) h2).trans rfl,frozen_of_row W' _ 4 _ _ h2⟩
theorem zbE {n:Nat}(h:n≤1000) : -p2 1330≤(n:Int)∧(n:Int)≤p2 1330:=by
 have h1:=zar (show 10≤1330 by omega);have h2:p2 10=1024:=rfl;omega
theorem zsv (A:Option Addr)(c n:Nat)(q:List Nd)(most:Int)(w:World)(h:Ns w A c q)(hn:q.length=n)(hn9:n≤900000)(hg:zao q)(hm : -9223372036854775808≤most∧most≤9223372036854775807)(h1:most<0) :
  Calls Tryz.prog 9 #[.agg #[.slice A n c],.int .i64 most] w (zjU q n most w):=by
 have hcap:=h.cap;rw[hn] at hcap;have HO:=Hh (Oo.start (n:=n) h);have HL:=Hh hn;have HG:=Hh hg;have t1:decide (most<0)=true:=decide_eq_true h1;have hr:=HO.out.rk;obtain⟨e0,e1,e2,e3,e4⟩:=Gr.cells hr;dsimp only[gr0,bw0,List.length_nil] at e0 e1 e2 e3 e4;have HH:=Hh (show most<0∨1000<most by omega);clear h hn hg hr;go_enter Tryz.func9,Tryz.ntmps9;go_wp2_with fail;refine bodyPost_ret (v:=.tuple #[gr0.val,.int .i64 1]) (by simp[results,Tryz.results9,go_sem,e0,e1,e2,e3,e4,gr0,bw0]) rfl ?_;exact⟨gr0,0,0,1,rfl,zjS _,⟨Nat.zero_le _,Nat.zero_le _⟩,fun _=>rfl,HO.out.b,.inl ⟨HH.out,rfl,rfl,rfl,rfl⟩⟩
theorem zsw (A:Option Addr)(c n:Nat)(q:List Nd)(most:Int)(w:World)(h:Ns w A c q)(hn:q.length=n)(hn9:n≤900000)(hg:zao q)(hm : -9223372036854775808≤most∧most≤9223372036854775807)(h1:0≤most)(h2:1000<most) :
  Calls Tryz.prog 9 #[.agg #[.slice A n c],.int .i64 most] w (zjU q n most w):=by
 have hcap:=h.cap;rw[hn] at hcap;have HO:=Hh (Oo.start (n:=n) h);have HL:=Hh hn;have HG:=Hh hg;have t1:decide (most<0)=false:=decide_eq_false (by omega);have t2:decide (most>1000)=true:=decide_eq_true h2;have hr:=HO.out.rk;obtain⟨e0,e1,e2,e3,e4⟩:=Gr.cells hr;dsimp only[gr0,bw0,List.length_nil] at e0 e1 e2 e3 e4;have HH:=Hh (show most<0∨1000<most by omega);clear h hn hg hr;go_enter Tryz.func9,Tryz.ntmps9;go_wp2_with fail;refine bodyPost_ret (v:=.tuple #[gr0.val,.int .i64 1]) (by simp[results,Tryz.results9,go_sem,e0,e1,e2,e3,e4,gr0,bw0]) rfl ?_;exact⟨gr0,0,0,1,rfl,zjS _,⟨Nat.zero_le _,Nat.zero_le _⟩,fun _=>rfl,HO.out.b,.inl ⟨HH.out,rfl,rfl,rfl,rfl⟩⟩
structure Rj (w:World)(A:Option Addr)(n c:Nat)(q:List Nd)(g6:Nat)(u:Xb)(X Y V H:Int)(W8:World)(M:Int→Int→Int)(wide k:Nat)(a:Option Addr)(cc gr i:Nat)(W:World):Prop where
 rb:Rb w A n c q g6 u X Y V H W8
 f:Rf W8 M u wide k a cc W
 by_:W.ownsRow (W8.heap.size+1) 5 1 (.slice (some ⟨gr,0,none⟩) wide wide) wide (ziZ M k wide i)
 ne:∀j,(Value.slice a k cc).ownBlock=some j→j≠gr
section
variable {w:World} {A:Option Addr} {n c:Nat} {q:List Nd} {g6:Nat} {u:Xb} {X Y V H:Int} {W8:World} {M:Int→Int→Int} {wide k:Nat} {a:Option Addr} {cc gr i:Nat} {W W':World}
theorem Rj.nxt (h:Rj w A n c q g6 u X Y V H W8 M wide k a cc gr i W)(b:Below W.heap.size W W'):Rj w A n c q g6 u X Y V H W8 M wide k a cc gr i W' :=
 ⟨h.rb,h.f.next b,h.by_.kept (gbX b) (.inr (by simp[Value.ownBlock])),h.ne⟩
theorem Rj.rbW (h:Rj w A n c q g6 u X Y V H W8 M wide k a cc gr i W):Rb w A n c q g6 u X Y V H W:=h.rb.next h.f.bb
theorem Rj.s (h:Rj w A n c q g6 u X Y V H W8 M wide k a cc gr i W):W.cell? ⟨w.heap.size,0,none⟩=some (.slice A n c)∧W.cell? ⟨g6,0,none⟩=some (.bool u.x.s)∧W.cell? ⟨g6,1,none⟩=some (.slice u.x.a u.x.xs.length u.x.c)∧W.cell? ⟨g6,2,none⟩=some (.bool u.y.s)∧W.cell? ⟨g6,3,none⟩=some (.slice u.y.a u.y.xs.length u.y.c):=h.rbW.cells
theorem Rj.x (h:Rj w A n c q g6 u X Y V H W8 M wide k a cc gr i W):u.x.R W X:=h.rbW.r.x
theorem Rj.y (h:Rj w A n c q g6 u X Y V H W8 M wide k a cc gr i W):u.y.R W Y:=h.rbW.r.y
theorem Rj.ns (h:Rj w A n c q g6 u X Y V H W8 M wide k a cc gr i W):Ns W A c q:=h.rbW.o.ns
theorem Rj.cell (h:Rj w A n c q g6 u X Y V H W8 M wide k a cc gr i W)(hi:i<wide):W.cell? ⟨gr,i,none⟩=some (.int .u8 0):=by
 rw[h.by_.cellAt i (by omega)];unfold ziZ;rw[List.getElem?_map,List.getElem?_range hi];show some (if i<i then _ else _)=_;rw[if_neg (by omega)]
theorem Rj.free (h:Rj w A n c q g6 u X Y V H W8 M wide k a cc gr i W):W.frozen? ⟨gr,i,none⟩=false:=h.by_.frozenAt i
theorem Rj.put (h:Rj w A n c q g6 u X Y V H W8 M wide k a cc gr i W)(hi:i<wide):Rj w A n c q g6 u X Y V H W8 M wide k a cc gr (i+1) (W.setCell ⟨gr,i,none⟩ (.int .u8 (M k i))):=by
 obtain⟨h1,h2⟩:=h.by_.stored i (.int .u8 (M k i));rw[zqB M k hi] at h1;exact⟨h.rb,h.f.set (p:=⟨gr,i,none⟩) (by have:=(h.by_.lt gr rfl).1;show W8.heap.size<gr;omega) h.ne _,h1,h.ne⟩
end
theorem zsx (A:Option Addr)(c n:Nat)(q:List Nd)(most:Int)(w:World)(h:Ns w A c q)(hn:q.length=n)(hn9:n≤900000)(hg:zao q)(hm : -9223372036854775808≤most∧most≤9223372036854775807)(h1:0≤most)(h2:most≤1000) :
  Calls Tryz.prog 9 #[.agg #[.slice A n c],.int .i64 most] w (zjU q n most w):=by
 have hcap:=h.cap;rw[hn] at hcap;obtain⟨iS,hiS⟩:=zdK Tryz.infoS;obtain⟨iY,hiY⟩:=zdK Tryz.infoY;have HiS:=Hh hiS;have HiY:=Hh hiY;have HO:=Hh (Oo.start (n:=n) h);have HL:=Hh hn;have HG:=Hh hg;have t1:decide (most<0)=false:=decide_eq_false (by omega);have t2:decide (most>1000)=false:=decide_eq_false (by omega);have y0:=zaa HO.out.qk;clear h hn hg hiS hiY;go_enter Tryz.func9,Tryz.ntmps9;go_upto_if 26 with(go_at_call 29;go_loud (refine(znv n c A q most _ HO.out.ns HL.out hn9 HG.out hm).mono ?_;rintro e w2 ⟨X,Y,V,H,ok,rfl,bv,b_⟩;have BV:=Hh bv;obtain⟨R,hR⟩:∃R,R=(decide (V≤most)&&decide (H≤most)):=⟨_,rfl⟩;rw[←hR];have HR:=Hh hR;have HO:=Hh (HO.out.next b_);clear b_ bv hR;obtain⟨z0,z1,z2,z3,z4⟩:=Gr.cells HO.out.rk;obtain⟨f0,f1,f2,f3,f4⟩:=Gr.free HO.out.rk;have y0:=zaa HO.out.qk;dsimp only[gr0,bw0,List.length_nil] at z0 z1 z2 z3 z4))
 cases R with
 | false =>
  have hlim:most<V∨most<H:=by
   have:=HR.out;by_cases a:V≤most
   ·by_cases b:H≤most
    ·rw[decide_eq_true a,decide_eq_true b] at this;cases this
    ·omega
   ·omega
  have HLM:=Hh hlim;clear hlim;go_wp2_with fail;have QV:=zfB HO.out.rk gr0;obtain⟨e0,e1,e2,e3,e4⟩:=Gr.cells QV;dsimp only[gr0,bw0,putG,List.length_nil] at e0 e1 e2 e3 e4;refine bodyPost_ret (v:=.tuple #[gr0.val,.int .i64 4]) (by simp[results,Tryz.results9,go_sem,e0,e1,e2,e3,e4,gr0,bw0]) rfl ?_;exact⟨gr0,0,0,4,rfl,(zjS _),⟨Nat.zero_le _,Nat.zero_le _⟩,fun _=>rfl,zcp HO.out.b (by omega) gr0,.inr ⟨⟨h1,h2⟩,ok,X,Y,V,H,BV.out,.inl ⟨HLM.out,rfl,rfl,rfl,rfl⟩⟩⟩
 | true =>
  have hlim:V≤most∧H≤most:=by
   have:=HR.out.symm;rw[Bool.and_eq_true,decide_eq_true_iff,decide_eq_true_iff] at this;exact this
  have HLM:=Hh hlim;clear hlim;go_upto_if 34 with(go_at_call 30;go_loud (refine(zml n c A q _ HO.out.ns HL.out hn9 HG.out).mono ?_;rintro e w3 ⟨u,X2,Y2,V2,H2,ok2,rfl,ru,su,b_,bv⟩;have hal:=(Below.refl w3.heap.size w3).alloc (Nat.le_refl _) u.obj;have BV2:=Hh (show BxV q n ok2 X2 Y2 V2 H2 from bv);have RU:=Hh (ru.next hal);have SU:=Hh su;have HG6:=Hh (show w.heap.size+1<w3.heap.size from zac (HO.out.next b_).rk);have HO:=Hh ((HO.out.next b_).next hal);have UB:=Hh (heap_alloc_new w3 u.obj);clear b_ bv ru su hal z0 z1 z2 z3 z4 f0 f1 f2 f3 f4 y0;obtain⟨z0,z1,z2,z3,z4⟩:=Gr.cells HO.out.rk;obtain⟨f0,f1,f2,f3,f4⟩:=Gr.free HO.out.rk;have y0:=zaa HO.out.qk;dsimp only[gr0,bw0,List.length_nil] at z0 z1 z2 z3 z4))
  obtain⟨hk1,hk2,hk3,hk4,hk5⟩:=BV.out.one BV2.out;have HE:=Hh (And.intro hk1 (And.intro hk2 (And.intro hk3 (And.intro hk4 hk5))));clear hk1 hk2 hk3 hk4 hk5;cases ok2 with
  | false =>
   have hz:X2=0∧Y2=0∧V2=0∧H2=0:=by
    rcases BV2.out with⟨-,-,h⟩|⟨-,h,-⟩
    ·exact h
    ·cases h
   have HZ:=Hh hz;clear hz;go_wp2_with fail;have QV:=zfB HO.out.rk gr0;obtain⟨e0,e1,e2,e3,e4⟩:=Gr.cells QV;dsimp only[gr0,bw0,putG,List.length_nil] at e0 e1 e2 e3 e4;refine bodyPost_ret (v:=.tuple #[gr0.val,.int .i64 0]) (by simp[results,Tryz.results9,go_sem,e0,e1,e2,e3,e4,gr0,bw0]) rfl ?_;refine⟨gr0,0,0,0,rfl,(zjS _),⟨Nat.zero_le _,Nat.zero_le _⟩,fun _=>rfl,zcp HO.out.b (by omega) gr0,.inr ⟨⟨h1,h2⟩,false,X2,Y2,V2,H2,BV2.out,.inr ⟨by have:=HLM.out;have:=HE.out;omega,rfl,HZ.out.1.symm,HZ.out.2.1.symm,?_⟩⟩⟩;rw[HZ.out.2.2.1,HZ.out.2.2.2];rfl
  | true =>
   have hwd:=(show BxV q q.length true X2 Y2 V2 H2 by rw[HL.out];exact BV2.out).wide HG.out;have hfr:=(show BxV q q.length true X2 Y2 V2 H2 by rw[HL.out];exact BV2.out).lowG HG.out;have hhi:=(show BxV q q.length true X2 Y2 V2 H2 by rw[HL.out];exact BV2.out).hi HG.out;obtain⟨wide,hwide⟩:∃k:Nat,V2=(k:Int):=⟨V2.toNat,by omega⟩;obtain⟨high,hhigh⟩:∃k:Nat,H2=(k:Int):=⟨H2.toNat,by omega⟩;have hmo:(0≤most∧most≤1000)∧V2≤most∧H2≤most:=by have:=HLM.out;have:=HE.out;omega
   have HMO:=Hh hmo;subst hwide;subst hhigh;have HFR:=Hh (And.intro hfr hhi);have hw9:wide≤1000:=by omega
   have hh9:high≤1000:=by omega
   obtain⟨g6,hg6⟩:∃g,g=w3.heap.size:=⟨_,rfl⟩;have RB:=Hh (show Rb w A n c q g6 u X2 Y2 wide high (w3.alloc u.obj) from⟨HO.out,by rw[hg6];exact UB.out,RU.out⟩);obtain⟨W1,hW1⟩:∃W1:World,W1=w3.alloc u.obj:=⟨_,rfl⟩;obtain⟨M,hM⟩:∃M,M=picM (den q n) X2 Y2:=⟨_,rfl⟩;have HMM:=Hh hM;have HPB:=Hh (show ∀r c,0≤M r c∧M r c≤255 from fun r c=>by rw[hM];have:=zfd HG.out.1 X2 Y2 r c;rwa [HL.out] at this);have i1:inI (wide:Int)=true:=by(unfold inI;simp;omega)
   have i2:inI (high:Int)=true:=by(unfold inI;simp;omega)
   have o1:outI (wide:Int)=(wide:Int):=by(unfold outI;rw[i1];rfl)
   have o2:outI (high:Int)=(high:Int):=by(unfold outI;rw[i2];rfl)
   have q0:True:=trivial;have HG6:=Hh (show w.heap.size+1<g6 by rw[hg6];exact HG6.out);obtain⟨z0,z1,z2,z3,z4,z5,z6,z7⟩:=Xb.cells RB.out.ub;clear f0 f1 f2 f3 f4;rw[←hW1] at RB z0 z1 z2 z3 z4 z5 z6 z7 ⊢;rw[←hg6];clear hwd hfr hhi hmo hM HO UB RU hW1 hg6 y0;go_upto_region 10 with(first
    | (have _t:=q0;go_at_call 31;clear _t;go_loud (refine(zjG u.w.s u.w.a u.w.c u.w.xs _ RB.out.r.w.us).mono ?_;rintro e w4 ⟨rfl,b_⟩;rw[RB.out.r.w.v,o1,i1];have RB:=Hh (RB.out.next b_);clear b_ z0 z1 z2 z3 z4 z5 z6 z7;obtain⟨z0,z1,z2,z3,z4,z5,z6,z7⟩:=Xb.cells RB.out.ub;have q1:=q0;clear q0))
    | (have _t:=q1;go_at_call 31;clear _t;go_loud (refine(zjG u.h.s u.h.a u.h.c u.h.xs _ RB.out.r.h.us).mono ?_;rintro e w5 ⟨rfl,b_⟩;rw[RB.out.r.h.v,o2,i2];have RB:=Hh (RB.out.next b_);clear b_ z0 z1 z2 z3 z4 z5 z6 z7;obtain⟨z0,z1,z2,z3,z4,z5,z6,z7⟩:=Xb.cells RB.out.ub;have q2:=q1;clear q1)))
   have RFO:=Hh (show Rf w5 M u wide 0 none 0 (w5.alloc (.cells #[.bool u.x.s,.slice u.x.a u.x.xs.length u.x.c,.bool u.y.s,.slice u.y.a u.y.xs.length u.y.c,.slice none 0 0] 34)) from⟨(Below.refl _ _).alloc (Nat.le_refl _) _,heap_alloc_new w5 _,World.ownsRow_nil _ _ _ 1⟩);go_wp2_with fail;go_loopw [13] (fun z1 wr=>∃(k:Nat) (a:Option Addr) (cc:Nat),z1=.int .i64 k∧k≤high∧Rf w5 M u wide k a cc wr) (fun z1 _=>high-(intOf z1).toNat)
   case atStart=>exact⟨0,none,0,rfl,Nat.zero_le _,RFO.out⟩
   case round =>
    obtain⟨k,a,cc,rfl,hk,hf⟩:=hrel;have RF:=Hh hf;have kw:IntKind.i64.wrap ((k:Int)+1)=(k:Int)+1:=IntWalk.i64_in _ (by omega);clear z0 z1 z2 z3 z4 z5 z6 z7 RFO;by_cases hlt:k<high
    ·have HLT:=Hh hlt;have j3:decide ((k:Int)<(high:Int))=true:=decide_eq_true (by omega);have HLO:=Hh (show w5.heap.size+1≤wr.heap.size from zac hf.gk);clear hf hlt;go_wp2_with (at_make;refine wpList_make_full _ rfl _ _ 60 rfl (w5.heap.size+1) 5 iY _ 1 Tryz.underlying60 HiY.out.1 HiY.out.2.1 HiY.out.2.2.1 .i64 .i64 _ _ wide rfl rfl (by omega) (by omega) (by rw[HiY.out.2.2.2];omega) (by unfold maxLen;omega) HLO.out ?_;intro wa owa grwa;rw[zff rfl] at owa;have hba:=zib grwa;have PJ:=Hh (show Rj w A n c q g6 u X2 Y2 wide high w5 M wide k a cc wr.heap.size 0 wa from⟨RB.out,RF.out.next hba,by rw[znC];exact owa,fun j hj=>by have:=(RF.out.own.lt _ hj).2;omega⟩);clear owa grwa hba);obtain⟨gr,hgr⟩:∃g,g=wr.heap.size:=⟨_,rfl⟩;have PJ:=PJ.out;rw[←hgr] at PJ ⊢;have PK:=Hh PJ;clear hgr PJ RF HLO;go_loopw [15] (fun z1 wr=>∃(i:Nat),z1=.int .i64 i∧i≤wide∧Rj w A n c q g6 u X2 Y2 wide high w5 M wide k a cc gr i wr) (fun z1 _=>wide-(intOf z1).toNat)
     case atStart=>exact⟨0,rfl,Nat.zero_le _,PK.out⟩
     case round =>
      obtain⟨i,rfl,hi,hj⟩:=hrel;have PI:=Hh hj;have iw:IntKind.i64.wrap ((i:Int)+1)=(i:Int)+1:=IntWalk.i64_in _ (by omega);clear PK hj;by_cases hlt:i<wide
      ·have HI:=Hh hlt;have j4:decide ((i:Int)<(wide:Int))=true:=decide_eq_true (by omega);have i0:(0:Int)≤(i:Int):=by omega
       have x1:(i:Int)<(wide:Int):=by omega
       have HNX:=Hh (show(-p2 1330≤X2+(i:Int)∧X2+(i:Int)≤p2 1330)∧(-p2 1330≤Y2+(k:Int)∧Y2+(k:Int)≤p2 1330) by
        have h1:=HFR.out;have h2:=HLT.out;omega)
       have HGQ:=Hh (show getQ q (X2+i) (Y2+k)=M k i by rw[HMM.out,←HL.out];rfl);clear hlt;obtain⟨W0,hW0⟩:∃W0:World,W0=wr.drew:=⟨_,rfl⟩;have P0:=Hh (PI.out.nxt (Below.drew' (Below.refl _ _)));rw[←hW0] at P0;clear PI hi;go_wp2_with fail;refine wp_region_noPanic ?_;refine wp_region_held (S:=fun w'=>w'.cell? ⟨w.heap.size,0,none⟩=some (.slice A n c)∧w'.cell? ⟨g6,0,none⟩=some (.bool u.x.s)∧w'.cell? ⟨g6,1,none⟩=some (.slice u.x.a u.x.xs.length u.x.c)∧w'.cell? ⟨g6,2,none⟩=some (.bool u.y.s)∧w'.cell? ⟨g6,3,none⟩=some (.slice u.y.a u.y.xs.length u.y.c)) (by kernel_rfl) ?_;change wpAnyH _ _ _ _ _ _ _ _ wr.drew;rw[←hW0];clear hW0;have hS0:=P0.out.s;refine Tk1 (v:=?_) 0 hS0 ?_ ?_;rotate_left
       ·rintro w' ⟨_,_,_,_,_⟩;go_simp;first|done|with_reducible rfl|rfl
       simp only[Act.put,LA];refine Tk1 (v:=?_) 1 hS0 ?_ ?_;rotate_left
       ·rintro w' ⟨_,_,_,_,_⟩;go_simp;first|done|with_reducible rfl|rfl
       simp only[Act.put,LA];refine Tk1 (v:=?_) 2 hS0 ?_ ?_;rotate_left
       ·rintro w' ⟨_,_,_,_,_⟩;go_simp;first|done|with_reducible rfl|rfl
       simp only[Act.put,LA];refine Tk1 (v:=?_) 3 hS0 ?_ ?_;rotate_left
       ·rintro w' ⟨_,_,_,_,_⟩;go_simp;first|done|with_reducible rfl|rfl
       simp only[Act.put,LA];refine Tk1 (v:=?_) 4 hS0 ?_ ?_;rotate_left
       ·rintro w' ⟨_,_,_,_,_⟩;go_simp;first|done|with_reducible rfl|rfl
       simp only[Act.put,LA];refine Tk1 (v:=?_) 5 hS0 ?_ ?_;rotate_left
       ·rintro w' ⟨_,_,_,_,_⟩;go_simp;first|done|with_reducible rfl|rfl
       simp only[Act.put,LA];refine Tk1 (v:=?_) 8 hS0 ?_ ?_;rotate_left
       ·rintro w' ⟨_,_,_,_,_⟩;go_simp;first|done|with_reducible rfl|rfl
       simp only[Act.put,LA];refine Tk1 (v:=?_) 9 hS0 ?_ ?_;rotate_left
       ·rintro w' ⟨_,_,_,_,_⟩;go_simp;first|done|with_reducible rfl|rfl
       simp only[Act.put,LA];refine Tk1 (v:=?_) 10 hS0 ?_ ?_;rotate_left
       ·rintro w' ⟨_,_,_,_,_⟩;go_simp;first|done|with_reducible rfl|rfl
       simp only[Act.put,LA];refine Rd1 6 fun K hK=>?_;go_simp;refine(zbn (i:Int) _ (by omega) (by omega)).mono ?_;rintro e v1 h_;obtain⟨a1,rfl,ra,b_⟩:=zah h_;have RA:=Hh ra;clear ra h_;dsimp only;have P1:=Hh (P0.out.nxt b_);have hS1:=P1.out.s;refine hK.out _ _ hS1 (fun _=>?_);clear hK K b_;refine Rd1 7 fun K hK=>?_;go_simp;refine(zav u.x.s a1.s u.x.a a1.a u.x.c a1.c u.x.xs a1.xs _ P1.out.x.us RA.out.us (by have:=SU.out.x;omega) (by have:=zaA RA.out (zbE (by omega)).1 (zbE (by omega)).2;omega)).mono ?_;rintro e v2 h_;obtain⟨x9,rfl,rx,b_⟩:=zah h_;rw[P1.out.x.v,RA.out.v] at rx;have RX:=Hh rx;clear rx h_;dsimp only;have P2:=Hh (P1.out.nxt b_);have hS2:=P2.out.s;refine hK.out _ _ hS2 (fun _=>?_);clear hK K b_;refine Rd1 11 fun K hK=>?_;go_simp;refine(zbn (k:Int) _ (by omega) (by omega)).mono ?_;rintro e v3 h_;obtain⟨a3,rfl,rb,b_⟩:=zah h_;have RB:=Hh rb;have RX:=Hh (RX.out.next b_);clear rb h_;dsimp only;have P3:=Hh (P2.out.nxt b_);have hS3:=P3.out.s;refine hK.out _ _ hS3 (fun _=>?_);clear hK K b_;refine Rd1 12 fun K hK=>?_;go_simp;refine(zav u.y.s a3.s u.y.a a3.a u.y.c a3.c u.y.xs a3.xs _ P3.out.y.us RB.out.us (by have:=SU.out.y;omega) (by have:=zaA RB.out (zbE (by omega)).1 (zbE (by omega)).2;omega)).mono ?_;rintro e v4 h_;obtain⟨y9,rfl,ry,b_⟩:=zah h_;rw[P3.out.y.v,RB.out.v] at ry;have RY:=Hh ry;have RX:=Hh (RX.out.next b_);clear ry h_;dsimp only;have P4:=Hh (P3.out.nxt b_);have hS4:=P4.out.s;refine hK.out _ _ hS4 (fun _=>?_);clear hK K b_;refine Rd1 13 fun K hK=>?_;go_simp;refine(zpK A c n q x9 y9 (X2+i) (Y2+k) _ P4.out.ns HL.out hn9 HG.out.1 RX.out RY.out (by have:=zaA RX.out HNX.out.1.1 HNX.out.1.2;omega) (by have:=zaA RY.out HNX.out.2.1 HNX.out.2.2;omega)).mono ?_;rintro e v5 ⟨rfl,b_⟩;rw[HGQ.out];dsimp only;have P5:=Hh (P4.out.nxt b_);have hS5:=P5.out.s;refine hK.out _ _ hS5 (fun _=>?_);clear hK K b_;refine Tk1 (v:=?_) 14 hS5 ?_ ?_;rotate_left
       ·rintro w' ⟨_,_,_,_,_⟩;go_simp;first|done|with_reducible rfl|rfl
       simp only[Act.put,LA];have s0:=P5.out.cell HI.out;have s1:=P5.out.free;refine Rd1 15 fun K hK=>?_;go_simp;have P6:=Hh (P5.out.put HI.out);have hS6:=P6.out.s;refine hK.out _ _ hS6 (fun _=>?_);clear hK K;refine wpAnyH_done (by kernel_rfl) ?_ _;refine NoPanic.normal ?_;go_wp2_with fail;go_roundw
       case rel=>exact⟨i+1,by go_num,HI.out,P6.out⟩
       case measure=>have:=HI.out;simp[intOf];omega
      ·have e:i=wide:=by omega
       subst e;have j4:decide ((i:Int)<(i:Int))=false:=decide_eq_false (by omega);have hby:=PI.out.by_;rw[zqA] at hby;have hcv:=zqC hby HPB.out;obtain⟨g0,g1,g2,g3,g4⟩:=PI.out.f.cells;have hfz:=frozen_of_row wr w5.heap.size 4 _ _ PI.out.f.gk;have HLO:=Hh (show w5.heap.size+1≤wr.heap.size from zac PI.out.f.gk);clear hby hlt hi;go_wp2_with (at_builtin;refine wpList_append_own_at _ rfl _ _ 32 rfl (w5.heap.size+1) 9 iS (.string ⟨#[]⟩) 1 16 Tryz.underlying32 HiS.out.1 HiS.out.2.1 HiS.out.2.2.1 HiS.out.2.2.2 rfl (by decide) _ _ _ rfl (PI.out.f.own.alloc _) ⟨_,0,none⟩ 1 1 [strV (strM M k i)] rfl rfl (cell_one_new _ _ _) (by simp[strV,Value.oneCell']) (by simp only[maxLen];omega) (by omega) (by rw[World.size_alloc];exact Nat.le_succ_of_le HLO.out) ?_;intro v2 w9 ho9 hg9 hn9' hk9;obtain⟨a9,c9,rfl⟩:=znE ho9;obtain⟨g4,hfz⟩:=PI.out.f.at9 hg9;have HR9:=Hh ((PI.out.f.next ((Below.refl _ _).alloc (Nat.le_refl _) _)).more (by rw[znD,List.map_append];exact ho9) hg9);clear ho9 hg9 hn9' hk9);go_roundw
       case rel=>exact⟨k+1,_,_,by go_num,by have:=HLT.out;omega,HR9.out⟩
       case measure=>have:=HLT.out;simp[intOf];omega
    ·have e:k=high:=by omega
     subst e;have HE9:=Hh hf;have j3:decide ((k:Int)<(k:Int))=false:=decide_eq_false (by omega);obtain⟨g0,g1,g2,g3,g4⟩:=hf.cells;have RBW:=Hh (RB.out.next hf.bb);obtain⟨z0,z1,z2,z3,z4⟩:=Gr.cells RBW.out.o.rk;obtain⟨f0,f1,f2,f3,f4⟩:=Gr.free RBW.out.o.rk;dsimp only[gr0,bw0,List.length_nil] at z0 z1 z2 z3 z4;clear hf hlt;go_wp2_with fail;obtain⟨v,hv⟩:∃v:Gr,v=⟨u.x,u.y,a,cc,zbz M wide k⟩:=⟨_,rfl⟩;have hrl:(zbz M wide k).length=k:=zcb _ _ _;have QV:=zfB RBW.out.o.rk v;obtain⟨e0,e1,e2,e3,e4⟩:=Gr.cells QV;have RV:=Gr.R.putG (v:=v) (u:=v) (W:=wr) (X:=X2) (Y:=Y2) (by rw[hv];exact⟨RBW.out.r.x,RBW.out.r.y,⟨fun r hr=>(by obtain⟨i,hi,rfl⟩:=List.mem_map.1 hr;rw[zbD];unfold maxLen;omega),Rd.own HE9.out.own⟩⟩) RBW.out.o.rk;have hbv:=zcp RBW.out.o.b (show w.heap.size≤w.heap.size+1 by omega) v;rw[hv] at e0 e1 e2 e3 e4;dsimp only[putG] at e0 e1 e2 e3 e4;rw[hrl] at e0 e1 e2 e3 e4;refine bodyPost_ret (v:=.tuple #[v.val,.int .i64 0]) (by simp[results,Tryz.results9,go_sem,e0,e1,e2,e3,e4,hv,hrl]) rfl ?_;have hL:v.L=zbz M wide k:=by rw[hv]
     have hsh:=SU.out;refine⟨v,X2,Y2,0,rfl,?_,?_,?_,?_,.inr ⟨HMO.out.1,true,X2,Y2,wide,k,BV2.out,.inr ⟨HMO.out.2,rfl,rfl,rfl,?_⟩⟩⟩
     ·rw[hv] at RV ⊢;dsimp only[putG] at RV;rw[hrl] at RV;exact RV
     ·rw[hv];exact⟨hsh.x,hsh.y⟩
     ·rw[hv];exact zsu HE9.out.own
     ·rw[hv] at hbv;dsimp only[putG] at hbv;rw[hrl] at hbv;exact hbv
     ·rw[hL,HMM.out,Int.toNat_natCast,Int.toNat_natCast]
theorem zmw (A:Option Addr)(c n:Nat)(q:List Nd)(most:Int)(w:World)(h:Ns w A c q)(hn:q.length=n)(hn9:n≤900000)(hg:zao q)(hm : -9223372036854775808≤most∧most≤9223372036854775807) :
  Calls Tryz.prog 9 #[.agg #[.slice A n c],.int .i64 most] w (zjU q n most w):=by
 by_cases h1:most<0
 ·exact zsv A c n q most w h hn hn9 hg hm h1
 ·by_cases h2:1000<most
  ·exact zsw A c n q most w h hn hn9 hg hm (by omega) h2
  ·exact zsx A c n q most w h hn hn9 hg hm (by omega) (by omega)
end Go.Proofs.YtikehjindobpkaaGreat
