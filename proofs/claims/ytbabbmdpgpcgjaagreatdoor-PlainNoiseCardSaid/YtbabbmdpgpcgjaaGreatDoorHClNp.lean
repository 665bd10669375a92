import Derived.Test.YtbabbmdpgpcgjaaGreatDoorHBxH

set_option linter.unusedVariables false
set_option linter.unusedSimpArgs false
set_option maxRecDepth 100000
set_option maxHeartbeats 6400000
namespace Go.Proofs.YtbabbmdpgpcgjaaGreatDoor
open Go.RowKit Num Nds
theorem zoy {l:List Nd}{ax e n:Nat}{w w':World}{en:Ending}(h:zxQ l ax e n w en w')(h0:0<n) :
  ∃(gr:Nat) (u:Bw) (D:Int),en=.returned (.slice (some ⟨gr,0,none⟩) (n+1) (n+1))∧w'.cell? ⟨gr,n*2,none⟩=some (.bool u.s)∧w'.cell? ⟨gr,n*2+1,none⟩=some (.slice u.a u.xs.length u.c)∧u.R w' D∧EdS ax e (at_ l (n-1)).lv.toNat (fun u=>u=den l n) D∧Below w.heap.size w w':=by
 obtain⟨gr,L,F,rfl,h1⟩:=h;obtain⟨c0,c1⟩:=h1.row.row.2.2.1 n (by omega);obtain⟨hg,he⟩:=h1.fine (n-1) (by omega);rw[Nat.sub_add_cancel (by omega)] at hg;unfold IsE at he;rw[Nat.sub_add_cancel (by omega)] at he;exact⟨gr,⟨(gat L n).s,(gat L n).a,(gat L n).c,(gat L n).xs⟩,F (n-1),rfl,c0,c1,⟨hg.us,hg.cn,hg.v⟩,he,h1.b⟩
theorem zfc {ax e:Nat}(k0 k1 k2 k3:Int)(n c:Nat)(A:Option Addr)(l:List Nd)(w:World)(h:Ns w A c l)(hn:l.length=n)(h0:0<n)(hn9:n≤900000)(hg:zas l)(he:e≤1)(hk:k0=(kk ax e 0:Nat)∧k1=(kk ax e 1:Nat)∧k2=(kk ax e 2:Nat)∧k3=(kk ax e 3:Nat)) :
  Calls Tryz.prog 79 #[.slice A n c,.agg #[.int .i64 k0,.int .i64 k1],.agg #[.int .i64 k2,.int .i64 k3]] w fun en w' =>
   ∃(gr:Nat) (u:Bw) (D:Int),en=.returned (.slice (some ⟨gr,0,none⟩) (n+1) (n+1))∧w'.cell? ⟨gr,n*2,none⟩=some (.bool u.s)∧w'.cell? ⟨gr,n*2+1,none⟩=some (.slice u.a u.xs.length u.c)∧u.R w' D∧EdS ax e (at_ l (n-1)).lv.toNat (fun u=>u=den l n) D∧Below w.heap.size w w':=by
 obtain⟨rfl,rfl,rfl,rfl⟩:=hk;exact(zox ax e n c A l w h hn hn9 hg he).mono fun en w' hr=>zoy hr h0
structure OgJ (w W:World)(A:Option Addr)(c n:Nat)(l:List Nd)(K:List (Nat × Bw × Int)):Prop where
 ag:Ag w W [(A,c,l)] [(w.heap.size,.slice A n c)] K
 r:W.heap[w.heap.size+1]?=some xb0.obj
theorem OgJ.step {w W W':World}{A:Option Addr}{c n:Nat}{l:List Nd}{K:List (Nat × Bw × Int)}(h:OgJ w W A c n l K)(k:Below W.heap.size W W'):OgJ w W' A c n l K:=⟨h.ag.step k,(k.block _ (zab h.r)).trans h.r⟩
theorem OgJ.add {w W:World}{A:Option Addr}{c n:Nat}{l:List Nd}{K:List (Nat × Bw × Int)}(h:OgJ w W A c n l K){u:Bw}{X:Int}(k:u.R W X):OgJ w (W.alloc (.cells #[.bool u.s,.slice u.a u.xs.length u.c] 69)) A c n l ((W.heap.size,u,X) :: K) :=
 ⟨h.ag.addK k,(Below.heap_alloc W _ _ (zab h.r)).trans h.r⟩
theorem OgJ.q {w W:World}{A:Option Addr}{c n:Nat}{l:List Nd}{K:List (Nat × Bw × Int)}(h:OgJ w W A c n l K):W.cell? ⟨w.heap.size,0,none⟩=some (.slice A n c):=h.ag.getB (by simp)
theorem OgJ.ns {w W:World}{A:Option Addr}{c n:Nat}{l:List Nd}{K:List (Nat × Bw × Int)}(h:OgJ w W A c n l K):Ns W A c l:=h.ag.getN (by simp)
theorem zrb (n c:Nat)(A:Option Addr)(l:List Nd)(w:World)(h:Ns w A c l)(hn:l.length=n)(h0:0<n)(hn9:n≤900000)(hg:zas l) :
  Calls Tryz.prog 54 #[.agg #[.slice A n c]] w (zov l n w):=by
 have hcap:=h.cap;rw[hn] at hcap;have hlv:=zaH (zaq hg.1 (i:=n-1) (by omega));have hlz:zaO l=(at_ l (n-1)).lv:=by
  unfold zaO;rw[if_neg (fun e=>by rw[e] at hn;simp at hn;omega),hn]
 obtain⟨top,htop⟩:∃top:Nat,(at_ l (n-1)).lv=(top:Int):=⟨(at_ l (n-1)).lv.toNat,by omega⟩;rw[htop] at hlv hlz;have j0:OgJ w ((w.alloc (.cells #[.slice A n c] 27)).alloc xb0.obj) A c n l []:=by
  refine⟨(((Ag.start w).addN h).addB (.slice A n c)).alloc xb0.obj,?_⟩;have hr:=heap_alloc_new (w.alloc (.cells #[.slice A n c] 27)) xb0.obj
  rwa [World.size_alloc] at hr
 have J0:=Hh j0;have g0:=j0.q;have HNL:=Hh hn;have HG:=Hh hg;have HT:=Hh htop;have HLZ:=Hh hlz;have t1:((n:Int)==0)=false:=beq_eq_false_iff_ne.2 (by omega);have i1:(0:Int)≤(n:Int):=by omega
 have i2:(n:Int)<(n:Int)+1:=by omega
 have i3:IntKind.i64.wrap ((top:Int)-1)=((top-1:Nat):Int):=by rw[show(top:Int)-1=((top-1:Nat):Int) by omega];exact IntWalk.i64_in _ (by omega)
 have HP0:=Hh (show shlI 1 (top:Int)=p2 top from zdE _ (by omega));have HP1:=Hh (show shlI 1 ((top-1:Nat):Int)=p2 (top-1) from zdE _ (by omega));have q0:True:=trivial;clear h hn hg htop hlz j0;dsimp only[xb0,bw0,Xb.obj,List.length_nil] at J0 g0;go_enter Tryz.func54,Tryz.ntmps54;go_upto_region 10 with(first
  | (have _t:=q0;go_at_call 79;clear _t;go_loud (refine(zfc (ax:=0) (e:=0) 0 2 1 3 n c A l _ J0.out.ns HNL.out h0 hn9 HG.out (by omega) (by decide)).mono ?_;rintro en w1 ⟨gr,uw,Dw,rfl,r0,r1,ru,re,b1⟩;have Ew:=Hh re;have hz1:=zab (J0.out.step b1).r;have J1:=Hh ((J0.out.step b1).add ru);have g0:=J1.out.q;have hcu:=ru.us.cap;clear ru re b1;have q1:=q0;clear q0))
  | (have _t:=q1;go_at_call 79;clear _t;go_loud (refine(zfc (ax:=0) (e:=1) 1 3 0 2 n c A l _ J1.out.ns HNL.out h0 hn9 HG.out (by omega) (by decide)).mono ?_;rintro en w2 ⟨gr,ue,De,rfl,r0,r1,ru,re,b1⟩;have Ee:=Hh re;have hz2:=zab (J1.out.step b1).r;have J2:=Hh ((J1.out.step b1).add ru);have g0:=J2.out.q;have hcu:=ru.us.cap;clear ru re b1;have q2:=q1;clear q1))
  | (have _t:=q2;go_at_call 79;clear _t;go_loud (refine(zfc (ax:=1) (e:=0) 0 1 2 3 n c A l _ J2.out.ns HNL.out h0 hn9 HG.out (by omega) (by decide)).mono ?_;rintro en w3 ⟨gr,un,Dn,rfl,r0,r1,ru,re,b1⟩;have En:=Hh re;have hz3:=zab (J2.out.step b1).r;have J3:=Hh ((J2.out.step b1).add ru);have g0:=J3.out.q;have hcu:=ru.us.cap;clear ru re b1;have q3:=q2;clear q2))
  | (have _t:=q3;go_at_call 79;clear _t;go_loud (refine(zfc (ax:=1) (e:=1) 2 3 0 1 n c A l _ J3.out.ns HNL.out h0 hn9 HG.out (by omega) (by decide)).mono ?_;rintro en w4 ⟨gr,us,Ds,rfl,r0,r1,ru,re,b1⟩;have Es:=Hh re;have hz4:=zab (J3.out.step b1).r;have J4:=Hh ((J3.out.step b1).add ru);have g0:=J4.out.q;have hcu:=ru.us.cap;clear ru re b1;have q4:=q3;clear q3))
  | (have _t:=q4;go_at_call 80;clear _t;go_loud (refine(zcV A c n l _ J4.out.ns HNL.out).mono ?_;rintro en w5 ⟨rfl,b5⟩;rw[HLZ.out];have J5:=Hh (J4.out.step b5);clear b5;have q5:=q4;clear q4))
  | (have _t:=q5;go_at_call 76;clear _t;go_loud (refine(zbC _ _).mono ?_;rintro en w6 h6;rw[HP0.out] at h6;obtain⟨uz,rfl,ru,b6⟩:=zaj h6;have J6:=Hh (J5.out.step b6);have RS:=Hh ru;clear h6 ru b6;have q6:=q5;clear q5))
  | (have _t:=q6;go_at_call 76;clear _t;go_loud (refine(zbC _ _).mono ?_;rintro en w7 h7;rw[HP1.out] at h7;obtain⟨uh,rfl,ru,b7⟩:=zaj h7;have J7:=Hh (J6.out.step b7);have RS:=Hh (RS.out.next b7);have RH:=Hh ru;clear h7 ru b7;have q7:=q6;clear q6))
  | (have _t:=q7;go_at_call 75;clear _t;go_loud (refine(zfp uh.s uh.a uh.c uh.xs _ RH.out.us (Nat.le_trans (zaX RH.out (by have:=zaz (top-1);have:=zaz 1330;omega) (zaw (by omega))) (by omega))).mono ?_;rintro en w8 h8;obtain⟨uc,rfl,ru,b8⟩:=zaj h8;rw[RH.out.v] at ru;have RS:=Hh (RS.out.next b8);have RC:=Hh (ru.next ((Below.refl _ w8).alloc (Nat.le_refl _) uz.obj));have hz8:=zab (J7.out.step b8).r;have J8:=Hh (((J7.out.step b8).add RS.out).add RC.out);clear h8 ru b8;have q8:=q7;clear q7)))
 rw[World.size_alloc] at J8;obtain⟨g5,hg5⟩:∃g,g=w1.heap.size:=⟨_,rfl⟩;obtain⟨g6,hg6⟩:∃g,g=w2.heap.size:=⟨_,rfl⟩;obtain⟨g7,hg7⟩:∃g,g=w3.heap.size:=⟨_,rfl⟩;obtain⟨g8,hg8⟩:∃g,g=w4.heap.size:=⟨_,rfl⟩;obtain⟨gc,hgc⟩:∃g,g=w8.heap.size+1:=⟨_,rfl⟩;rw[←hgc] at J8 ⊢;obtain⟨gz,hgz⟩:∃g,g=w8.heap.size:=⟨_,rfl⟩;rw[←hg5,←hg6,←hg7,←hg8,←hgz] at J8 ⊢;obtain⟨KL,hKL⟩:∃K:List (Nat × Bw × Int),K=[(gc,uc,-p2 (top-1)),(gz,uz,p2 top),(g8,us,Ds),(g7,un,Dn),(g6,ue,De),(g5,uw,Dw)]:=⟨_,rfl⟩;rw[←hKL] at J8;have mc:(gc,uc,-p2 (top-1))∈KL:=by rw[hKL];exact List.mem_cons_self
 have mz:(gz,uz,p2 top)∈KL:=by rw[hKL];exact List.mem_cons_of_mem _ List.mem_cons_self
 have m8:(g8,us,Ds)∈KL:=by rw[hKL];exact List.mem_cons_of_mem _ (List.mem_cons_of_mem _ List.mem_cons_self)
 have m7:(g7,un,Dn)∈KL:=by rw[hKL];exact List.mem_cons_of_mem _ (List.mem_cons_of_mem _ (List.mem_cons_of_mem _ List.mem_cons_self))
 have m6:(g6,ue,De)∈KL:=by rw[hKL];exact List.mem_cons_of_mem _ (List.mem_cons_of_mem _ (List.mem_cons_of_mem _ (List.mem_cons_of_mem _ List.mem_cons_self)))
 have m5:(g5,uw,Dw)∈KL:=by rw[hKL];exact List.mem_cons_of_mem _ (List.mem_cons_of_mem _ (List.mem_cons_of_mem _ (List.mem_cons_of_mem _ (List.mem_cons_of_mem _ List.mem_cons_self))))
 clear hKL;obtain⟨W8,hW8⟩:∃W:World,W=((w8.alloc (.cells #[.bool uz.s,.slice uz.a uz.xs.length uz.c] 69)).alloc (.cells #[.bool uc.s,.slice uc.a uc.xs.length uc.c] 69)).drew:=⟨_,rfl⟩;have JA:=Hh (J8.out.step (zac (Below.refl _ _) 1));change Hid (OgJ w ((w8.alloc (.cells #[.bool uz.s,.slice uz.a uz.xs.length uz.c] 69)).alloc (.cells #[.bool uc.s,.slice uc.a uc.xs.length uc.c] 69)).drew A c n l _) at JA;rw[←hW8] at JA;have hw9:=Hh (show ∀(ax e:Nat) (D:Int),EdS ax e (at_ l (n-1)).lv.toNat (fun u=>u=den l n) D→0≤D∧D<p2 top from fun ax e D h=>by
  have hw:=zbY HG.out.1 (n-1) (by have:=HNL.out;omega);rw[Nat.sub_add_cancel (by omega),HT.out] at hw;rw[HT.out,Int.toNat_natCast] at h;exact h.in_ (fun t ht=>by have ht':t=den l n:=ht;rw[ht'];exact hw))
 have m0:=zaw (show top≤1329 by omega);have m1:=zaw (show top-1≤1329 by omega);have m2:p2 1330=p2 1329+p2 1329:=zap 1329;have m3:=zaz (top-1);have m4:=zaz top;have hDw:=hw9.out _ _ _ Ew.out;have hDe:=hw9.out _ _ _ Ee.out;have hDn:=hw9.out _ _ _ En.out;have hDs:=hw9.out _ _ _ Es.out;have LB:=Hh (show ∀(u:Bw) (W:World) (X:Int),u.R W X→-p2 1330≤X→X≤p2 1330→u.xs.length≤50000 from fun u W X r h1 h2=>Nat.le_trans (zaX r h1 h2) (by omega));have lc:=LB.out _ _ _ (JA.out.ag.getK mc).r (by omega) (by omega);have lz:=LB.out _ _ _ (JA.out.ag.getK mz).r (by omega) (by omega);have lW:=LB.out _ _ _ (JA.out.ag.getK m5).r (by omega) (by omega);have lE:=LB.out _ _ _ (JA.out.ag.getK m6).r (by omega) (by omega);have lN:=LB.out _ _ _ (JA.out.ag.getK m7).r (by omega) (by omega);have lS:=LB.out _ _ _ (JA.out.ag.getK m8).r (by omega) (by omega);have HM:=Hh (And.intro m0 (And.intro m1 (And.intro m2 (And.intro m3 (And.intro m4 (And.intro hDw (And.intro hDe (And.intro hDn hDs))))))));have HGS:=Hh (show w.heap.size+1<gc∧w.heap.size+1<gz∧w.heap.size+1<g5∧w.heap.size+1<g6∧w.heap.size+1<g7∧w.heap.size+1<g8 by
  rw[←hg5] at hz1;rw[←hg6] at hz2;rw[←hg7] at hz3;rw[←hg8] at hz4;rw[←hgz] at hz8 hgc;exact⟨by rw[hgc];exact Nat.lt_succ_of_lt hz8,hz8,hz1,hz2,hz3,hz4⟩)
 clear m0 m1 m2 m3 m4 hDw hDe hDn hDs hg5 hg6 hg7 hg8 hgc hgz hz1 hz2 hz3 hz4 hz8 J0 J1 J2 J3 J4 J5 J6 J7 J8 RS RH RC;refine wp_region_noPanic ?_;refine wp_region_held (S:=fun w'=>w'.cell? ⟨gc,0,none⟩=some (.bool uc.s)∧w'.cell? ⟨gc,1,none⟩=some (.slice uc.a uc.xs.length uc.c)∧w'.cell? ⟨g5,0,none⟩=some (.bool uw.s)∧w'.cell? ⟨g5,1,none⟩=some (.slice uw.a uw.xs.length uw.c)∧w'.cell? ⟨g7,0,none⟩=some (.bool un.s)∧w'.cell? ⟨g7,1,none⟩=some (.slice un.a un.xs.length un.c)∧w'.cell? ⟨gz,0,none⟩=some (.bool uz.s)∧w'.cell? ⟨gz,1,none⟩=some (.slice uz.a uz.xs.length uz.c)∧w'.cell? ⟨g6,0,none⟩=some (.bool ue.s)∧w'.cell? ⟨g6,1,none⟩=some (.slice ue.a ue.xs.length ue.c)∧w'.cell? ⟨g8,0,none⟩=some (.bool us.s)∧w'.cell? ⟨g8,1,none⟩=some (.slice us.a us.xs.length us.c)) (by kernel_rfl) ?_;change wpAnyH _ _ _ _ _ _ _ _ ((w8.alloc (.cells #[.bool uz.s,.slice uz.a uz.xs.length uz.c] 69)).alloc (.cells #[.bool uc.s,.slice uc.a uc.xs.length uc.c] 69)).drew;rw[←hW8];clear hW8;clear hcap HLZ HP0 HP1;have hS0:=(And.intro (JA.out.ag.getK mc).c0 (And.intro (JA.out.ag.getK mc).c1 (And.intro (JA.out.ag.getK m5).c0 (And.intro (JA.out.ag.getK m5).c1 (And.intro (JA.out.ag.getK m7).c0 (And.intro (JA.out.ag.getK m7).c1 (And.intro (JA.out.ag.getK mz).c0 (And.intro (JA.out.ag.getK mz).c1 (And.intro (JA.out.ag.getK m6).c0 (And.intro (JA.out.ag.getK m6).c1 (And.intro (JA.out.ag.getK m8).c0 (JA.out.ag.getK m8).c1)))))))))));refine Tk1 (v:=?_) 0 hS0 ?_ ?_;rotate_left
 ·rintro w' ⟨_,_,_,_,_,_,_,_,_,_,_,_⟩;go_simp;first|done|with_reducible rfl|rfl
 simp only[Act.put,LA];refine Tk1 (v:=?_) 1 hS0 ?_ ?_;rotate_left
 ·rintro w' ⟨_,_,_,_,_,_,_,_,_,_,_,_⟩;go_simp;first|done|with_reducible rfl|rfl
 simp only[Act.put,LA];refine Tk1 (v:=?_) 3 hS0 ?_ ?_;rotate_left
 ·rintro w' ⟨_,_,_,_,_,_,_,_,_,_,_,_⟩;go_simp;first|done|with_reducible rfl|rfl
 simp only[Act.put,LA];refine Tk1 (v:=?_) 4 hS0 ?_ ?_;rotate_left
 ·rintro w' ⟨_,_,_,_,_,_,_,_,_,_,_,_⟩;go_simp;first|done|with_reducible rfl|rfl
 simp only[Act.put,LA];refine Tk1 (v:=?_) 6 hS0 ?_ ?_;rotate_left
 ·rintro w' ⟨_,_,_,_,_,_,_,_,_,_,_,_⟩;go_simp;first|done|with_reducible rfl|rfl
 simp only[Act.put,LA];refine Tk1 (v:=?_) 7 hS0 ?_ ?_;rotate_left
 ·rintro w' ⟨_,_,_,_,_,_,_,_,_,_,_,_⟩;go_simp;first|done|with_reducible rfl|rfl
 simp only[Act.put,LA];refine Tk1 (v:=?_) 8 hS0 ?_ ?_;rotate_left
 ·rintro w' ⟨_,_,_,_,_,_,_,_,_,_,_,_⟩;go_simp;first|done|with_reducible rfl|rfl
 simp only[Act.put,LA];refine Tk1 (v:=?_) 11 hS0 ?_ ?_;rotate_left
 ·rintro w' ⟨_,_,_,_,_,_,_,_,_,_,_,_⟩;go_simp;first|done|with_reducible rfl|rfl
 simp only[Act.put,LA];refine Tk1 (v:=?_) 12 hS0 ?_ ?_;rotate_left
 ·rintro w' ⟨_,_,_,_,_,_,_,_,_,_,_,_⟩;go_simp;first|done|with_reducible rfl|rfl
 simp only[Act.put,LA];refine Tk1 (v:=?_) 13 hS0 ?_ ?_;rotate_left
 ·rintro w' ⟨_,_,_,_,_,_,_,_,_,_,_,_⟩;go_simp;first|done|with_reducible rfl|rfl
 simp only[Act.put,LA];refine Rd1 2 fun K hK=>?_;go_simp;refine(zaG uc.s uw.s uc.a uw.a uc.c uw.c uc.xs uw.xs _ (JA.out.ag.getK mc).r.us (JA.out.ag.getK m5).r.us (by omega) (by omega)).mono ?_;rintro en w_ux h_;obtain⟨ux,rfl,r_,b_⟩:=zaj h_;rw[(JA.out.ag.getK mc).r.v,(JA.out.ag.getK m5).r.v] at r_;dsimp only;have JB:=Hh (JA.out.step b_);have Rux:=Hh r_;have hSJB:=(And.intro (JB.out.ag.getK mc).c0 (And.intro (JB.out.ag.getK mc).c1 (And.intro (JB.out.ag.getK m5).c0 (And.intro (JB.out.ag.getK m5).c1 (And.intro (JB.out.ag.getK m7).c0 (And.intro (JB.out.ag.getK m7).c1 (And.intro (JB.out.ag.getK mz).c0 (And.intro (JB.out.ag.getK mz).c1 (And.intro (JB.out.ag.getK m6).c0 (And.intro (JB.out.ag.getK m6).c1 (And.intro (JB.out.ag.getK m8).c0 (JB.out.ag.getK m8).c1)))))))))));refine hK.out _ _ hSJB (fun _=>?_);clear hK K h_ r_ b_;refine Rd1 5 fun K hK=>?_;go_simp;refine(zaG uc.s un.s uc.a un.a uc.c un.c uc.xs un.xs _ (JB.out.ag.getK mc).r.us (JB.out.ag.getK m7).r.us (by omega) (by omega)).mono ?_;rintro en w_uy h_;obtain⟨uy,rfl,r_,b_⟩:=zaj h_;rw[(JB.out.ag.getK mc).r.v,(JB.out.ag.getK m7).r.v] at r_;dsimp only;have JC:=Hh (JB.out.step b_);have Rux:=Hh (Rux.out.next b_);have Ruy:=Hh r_;have hSJC:=(And.intro (JC.out.ag.getK mc).c0 (And.intro (JC.out.ag.getK mc).c1 (And.intro (JC.out.ag.getK m5).c0 (And.intro (JC.out.ag.getK m5).c1 (And.intro (JC.out.ag.getK m7).c0 (And.intro (JC.out.ag.getK m7).c1 (And.intro (JC.out.ag.getK mz).c0 (And.intro (JC.out.ag.getK mz).c1 (And.intro (JC.out.ag.getK m6).c0 (And.intro (JC.out.ag.getK m6).c1 (And.intro (JC.out.ag.getK m8).c0 (JC.out.ag.getK m8).c1)))))))))));refine hK.out _ _ hSJC (fun _=>?_);clear hK K h_ r_ b_;refine Rd1 9 fun K hK=>?_;go_simp;refine(zaG uw.s ue.s uw.a ue.a uw.c ue.c uw.xs ue.xs _ (JC.out.ag.getK m5).r.us (JC.out.ag.getK m6).r.us (by omega) (by omega)).mono ?_;rintro en w_ua h_;obtain⟨ua,rfl,r_,b_⟩:=zaj h_;rw[(JC.out.ag.getK m5).r.v,(JC.out.ag.getK m6).r.v] at r_;dsimp only;have JD:=Hh (JC.out.step b_);have Rux:=Hh (Rux.out.next b_);have Ruy:=Hh (Ruy.out.next b_);have Rua:=Hh r_;have hSJD:=(And.intro (JD.out.ag.getK mc).c0 (And.intro (JD.out.ag.getK mc).c1 (And.intro (JD.out.ag.getK m5).c0 (And.intro (JD.out.ag.getK m5).c1 (And.intro (JD.out.ag.getK m7).c0 (And.intro (JD.out.ag.getK m7).c1 (And.intro (JD.out.ag.getK mz).c0 (And.intro (JD.out.ag.getK mz).c1 (And.intro (JD.out.ag.getK m6).c0 (And.intro (JD.out.ag.getK m6).c1 (And.intro (JD.out.ag.getK m8).c0 (JD.out.ag.getK m8).c1)))))))))));refine hK.out _ _ hSJD (fun _=>?_);clear hK K h_ r_ b_;refine Rd1 10 fun K hK=>?_;go_simp;refine(zcp uz.s ua.s uz.a ua.a uz.c ua.c uz.xs ua.xs _ (JD.out.ag.getK mz).r.us Rua.out.us (by omega) (Nat.le_trans (LB.out _ _ _ Rua.out (by have:=HM.out;omega) (by have:=HM.out;omega)) (by omega))).mono ?_;rintro en w_uv h_;obtain⟨uv,rfl,r_,b_⟩:=zaj h_;rw[(JD.out.ag.getK mz).r.v,Rua.out.v] at r_;dsimp only;have JE:=Hh (JD.out.step b_);have Rux:=Hh (Rux.out.next b_);have Ruy:=Hh (Ruy.out.next b_);have Ruv:=Hh r_;have hSJE:=(And.intro (JE.out.ag.getK mc).c0 (And.intro (JE.out.ag.getK mc).c1 (And.intro (JE.out.ag.getK m5).c0 (And.intro (JE.out.ag.getK m5).c1 (And.intro (JE.out.ag.getK m7).c0 (And.intro (JE.out.ag.getK m7).c1 (And.intro (JE.out.ag.getK mz).c0 (And.intro (JE.out.ag.getK mz).c1 (And.intro (JE.out.ag.getK m6).c0 (And.intro (JE.out.ag.getK m6).c1 (And.intro (JE.out.ag.getK m8).c0 (JE.out.ag.getK m8).c1)))))))))));refine hK.out _ _ hSJE (fun _=>?_);clear hK K h_ r_ b_;refine Rd1 14 fun K hK=>?_;go_simp;refine(zaG un.s us.s un.a us.a un.c us.c un.xs us.xs _ (JE.out.ag.getK m7).r.us (JE.out.ag.getK m8).r.us (by omega) (by omega)).mono ?_;rintro en w_ub h_;obtain⟨ub,rfl,r_,b_⟩:=zaj h_;rw[(JE.out.ag.getK m7).r.v,(JE.out.ag.getK m8).r.v] at r_;dsimp only;have JF:=Hh (JE.out.step b_);have Rux:=Hh (Rux.out.next b_);have Ruy:=Hh (Ruy.out.next b_);have Ruv:=Hh (Ruv.out.next b_);have Rub:=Hh r_;have hSJF:=(And.intro (JF.out.ag.getK mc).c0 (And.intro (JF.out.ag.getK mc).c1 (And.intro (JF.out.ag.getK m5).c0 (And.intro (JF.out.ag.getK m5).c1 (And.intro (JF.out.ag.getK m7).c0 (And.intro (JF.out.ag.getK m7).c1 (And.intro (JF.out.ag.getK mz).c0 (And.intro (JF.out.ag.getK mz).c1 (And.intro (JF.out.ag.getK m6).c0 (And.intro (JF.out.ag.getK m6).c1 (And.intro (JF.out.ag.getK m8).c0 (JF.out.ag.getK m8).c1)))))))))));refine hK.out _ _ hSJF (fun _=>?_);clear hK K h_ r_ b_;refine Rd1 15 fun K hK=>?_;go_simp;refine(zcp uz.s ub.s uz.a ub.a uz.c ub.c uz.xs ub.xs _ (JF.out.ag.getK mz).r.us Rub.out.us (by omega) (Nat.le_trans (LB.out _ _ _ Rub.out (by have:=HM.out;omega) (by have:=HM.out;omega)) (by omega))).mono ?_;rintro en w_ut h_;obtain⟨ut,rfl,r_,b_⟩:=zaj h_;rw[(JF.out.ag.getK mz).r.v,Rub.out.v] at r_;dsimp only;have JG:=Hh (JF.out.step b_);have Rux:=Hh (Rux.out.next b_);have Ruy:=Hh (Ruy.out.next b_);have Ruv:=Hh (Ruv.out.next b_);have Rut:=Hh r_;have hSJG:=(And.intro (JG.out.ag.getK mc).c0 (And.intro (JG.out.ag.getK mc).c1 (And.intro (JG.out.ag.getK m5).c0 (And.intro (JG.out.ag.getK m5).c1 (And.intro (JG.out.ag.getK m7).c0 (And.intro (JG.out.ag.getK m7).c1 (And.intro (JG.out.ag.getK mz).c0 (And.intro (JG.out.ag.getK mz).c1 (And.intro (JG.out.ag.getK m6).c0 (And.intro (JG.out.ag.getK m6).c1 (And.intro (JG.out.ag.getK m8).c0 (JG.out.ag.getK m8).c1)))))))))));refine hK.out _ _ hSJG (fun _=>?_);clear hK K h_ r_ b_;refine Tk1 (v:=?_) 16 hSJG ?_ ?_;rotate_left
 ·rintro w' ⟨_,_,_,_,_,_,_,_,_,_,_,_⟩;go_simp;first|done|with_reducible rfl|rfl
 simp only[Act.put,LA];have R9:=Hh JG.out.r;obtain⟨z0,z1,z2,z3,z4,z5,z6,z7⟩:=Xb.cells R9.out;obtain⟨y0,y1,y2,y3,y4,y5,y6,y7⟩:=Xb.cellsF R9.out;refine Rd1 17 fun K hK=>?_;go_simp;have fr:∀g,w.heap.size+1<g→∀(k:Nat) (v:Value),w_ut.cell? ⟨g,k,none⟩=some v→(putX w_ut (w.heap.size+1) ⟨ux,uy,uv,ut⟩).cell? ⟨g,k,none⟩=some v:=fun g hg k v hv=>(World.cell?_of_block (w:=w_ut) (a:=⟨g,k,none⟩) (zgm (Nat.ne_of_gt hg) ⟨ux,uy,uv,ut⟩)).trans hv;obtain⟨k_gc,k_gz,k_g5,k_g6,k_g7,k_g8⟩:=HGS.out;have hS9:=(And.intro (fr gc k_gc _ _ (JG.out.ag.getK mc).c0) (And.intro (fr gc k_gc _ _ (JG.out.ag.getK mc).c1) (And.intro (fr g5 k_g5 _ _ (JG.out.ag.getK m5).c0) (And.intro (fr g5 k_g5 _ _ (JG.out.ag.getK m5).c1) (And.intro (fr g7 k_g7 _ _ (JG.out.ag.getK m7).c0) (And.intro (fr g7 k_g7 _ _ (JG.out.ag.getK m7).c1) (And.intro (fr gz k_gz _ _ (JG.out.ag.getK mz).c0) (And.intro (fr gz k_gz _ _ (JG.out.ag.getK mz).c1) (And.intro (fr g6 k_g6 _ _ (JG.out.ag.getK m6).c0) (And.intro (fr g6 k_g6 _ _ (JG.out.ag.getK m6).c1) (And.intro (fr g8 k_g8 _ _ (JG.out.ag.getK m8).c0) (fr g8 k_g8 _ _ (JG.out.ag.getK m8).c1))))))))))));have hS8:=hS9;dsimp only[putX] at hS8;refine hK.out _ _ hS8 (fun _=>?_);clear hS8;clear hK K z0 z1 z2 z3 z4 z5 z6 z7 y0 y1 y2 y3 y4 y5 y6 y7;change wpAnyH _ _ _ _ _ _ _ _ (putX w_ut (w.heap.size+1) ⟨ux,uy,uv,ut⟩);have RF:=Hh (zqX R9.out ⟨ux,uy,uv,ut⟩);have HX:=Hh (show Xb.R ⟨ux,uy,uv,ut⟩ (putX w_ut (w.heap.size+1) ⟨ux,uy,uv,ut⟩) (-p2 (top-1)+Dw) (-p2 (top-1)+Dn) (p2 top-(Dw+De)) (p2 top-(Dn+Ds)) from⟨Rux.out.putX R9.out _,Ruy.out.putX R9.out _,Ruv.out.putX R9.out _,Rut.out.putX R9.out _⟩);have BF:=Hh (ziv JG.out.ag.b (g:=w.heap.size+1) (Nat.le_succ _) ⟨ux,uy,uv,ut⟩);clear fr;generalize putX w_ut (w.heap.size+1) ⟨ux,uy,uv,ut⟩=W9 at *;refine Tk1 (v:=?_) 18 hS9 ?_ ?_;rotate_left
 ·rintro w' ⟨_,_,_,_,_,_,_,_,_,_,_,_⟩;go_simp;first|done|with_reducible rfl|rfl
 simp only[Act.put,LA];refine wpAnyH_done (by kernel_rfl) ?_ _;refine NoPanic.normal ?_;go_wp2_with fail;obtain⟨z0,z1,z2,z3,z4,z5,z6,z7⟩:=Xb.cells RF.out;refine bodyPost_ret (v:=.tuple #[(⟨ux,uy,uv,ut⟩:Xb).val,.bool true]) (by simp[results,Tryz.results54,go_sem,z0,z1,z2,z3,z4,z5,z6,z7]) rfl ?_;have hm:=HM.out;refine⟨⟨ux,uy,uv,ut⟩,_,_,_,_,true,rfl,HX.out,⟨LB.out _ _ _ HX.out.x (by omega) (by omega),LB.out _ _ _ HX.out.y (by omega) (by omega),LB.out _ _ _ HX.out.w (by omega) (by omega),LB.out _ _ _ HX.out.h (by omega) (by omega)⟩,BF.out,.inr ⟨h0,rfl,?_⟩⟩;have ew:=Ew.out;have ee:=Ee.out;have e9:=En.out;have es:=Es.out;rw[HT.out,Int.toNat_natCast] at ew ee e9 es ⊢;refine⟨?_,?_,?_,?_⟩
 ·rwa [show -p2 (top-1)+Dw+p2 (top-1)=Dw by omega]
 ·rwa [show -p2 (top-1)+Dn+p2 (top-1)=Dn by omega]
 ·rwa [show p2 top-(p2 top-(Dw+De))-(-p2 (top-1)+Dw+p2 (top-1))=De by omega]
 ·rwa [show p2 top-(p2 top-(Dn+Ds))-(-p2 (top-1)+Dn+p2 (top-1))=Ds by omega]
theorem zrc (A:Option Addr)(c:Nat)(w:World):Calls Tryz.prog 54 #[.agg #[.slice A 0 c]] w (zov [] 0 w):=by
 have b1:=(Below.refl w.heap.size w).alloc (Nat.le_refl _) (.cells #[.slice A 0 c] 27);have b2:=b1.alloc (by simp) xb0.obj;have hr:=heap_alloc_new (w.alloc (.cells #[.slice A 0 c] 27)) xb0.obj;rw[World.size_alloc] at hr;obtain⟨e0,e1,e2,e3,e4,e5,e6,e7⟩:=Xb.cells hr;have HB:=Hh b2;dsimp only[xb0,bw0,Xb.obj,List.length_nil] at e0 e1 e2 e3 e4 e5 e6 e7 HB;clear b1 b2 hr;go_enter Tryz.func54,Tryz.ntmps54;go_wp2_with fail;refine bodyPost_ret (v:=.tuple #[xb0.val,.bool false]) (by simp[results,Tryz.results54,go_sem,e0,e1,e2,e3,e4,e5,e6,e7,xb0,bw0]) rfl ?_;exact⟨xb0,0,0,0,0,false,rfl,⟨zhp _,zhp _,zhp _,zhp _⟩,⟨by simp[xb0,bw0],by simp[xb0,bw0],by simp[xb0,bw0],by simp[xb0,bw0]⟩,HB.out,.inl ⟨rfl,rfl,rfl,rfl,rfl,rfl⟩⟩
theorem znt (n c:Nat)(A:Option Addr)(l:List Nd)(w:World)(h:Ns w A c l)(hn:l.length=n)(hn9:n≤900000)(hg:zas l) :
  Calls Tryz.prog 54 #[.agg #[.slice A n c]] w (zov l n w):=by
 by_cases h0:0<n
 ·exact zrb n c A l w h hn h0 hn9 hg
 ·have e0:n=0:=by omega
  subst e0;have e1:l=[]:=List.length_eq_zero_iff.1 hn;subst e1;exact zrc A c w
theorem zfB (n c:Nat)(A:Option Addr)(l:List Nd)(most:Int)(w:World)(h:Ns w A c l)(hn:l.length=n)(hn9:n≤900000)(hg:zas l)(hm : -9223372036854775808≤most∧most≤9223372036854775807) :
  Calls Tryz.prog 29 #[.agg #[.slice A n c],.int .i64 most] w (zxM l n most w):=by
 have hcap:=h.cap;rw[hn] at hcap;have hB:=(Below.refl w.heap.size w).alloc (Nat.le_refl _) (.cells #[.slice A n c] 27);have HB:=Hh hB;have HN:=Hh (h.below hB);have HNL:=Hh hn;have HG:=Hh hg;have q0:True:=trivial;clear h hn hg hB;go_enter Tryz.func29,Tryz.ntmps29;go_upto_region 2 with(first
  | (have _t:=q0;go_at_call 54;clear _t;go_loud (refine(znt n c A l _ HN.out HNL.out hn9 HG.out).mono ?_;rintro e w1 ⟨u,X,Y,V,H,ok,rfl,ru,su,b1,bv⟩;have hb3:=(Below.refl w1.heap.size w1).alloc (Nat.le_refl _) u.obj;have KX:=Hh (heap_alloc_new w1 u.obj);have RU:=Hh (ru.next hb3);have SU:=Hh su;have BV:=Hh (show BxV l n ok X Y V H from bv);have B1:=Hh (HB.out.trans ((b1.trans (hb3.mono b1.size)).mono HB.out.size));clear ru su b1 bv hb3;have q1:=q0;clear q0)))
 obtain⟨c0,c1,c2,c3,c4,c5,c6,c7⟩:=Xb.cells KX.out;have lw:=SU.out.w;have lh:=SU.out.h;obtain⟨W,hW⟩:∃W:World,W=(w1.alloc u.obj).drewN 1:=⟨_,rfl⟩;have hd:=zac (Below.refl (w1.alloc u.obj).heap.size (w1.alloc u.obj)) 1;rw[←hW] at hd;have RU:=Hh (RU.out.next hd);have KX:=Hh ((hd.block _ (zab KX.out)).trans KX.out);have B1:=Hh (B1.out.trans (hd.mono B1.out.size));have HW:=Hh hW;obtain⟨r1,hr1⟩:∃r,r=ordI V most:=⟨_,rfl⟩;obtain⟨r2,hr2⟩:∃r,r=ordI H most:=⟨_,rfl⟩;have e1:=zjx V most;have e2:=zjx H most;rw[←hr1] at e1;rw[←hr2] at e2;have HR1:=Hh hr1;have HR2:=Hh hr2;have HE1:=Hh e1;have HE2:=Hh e2;have LO:∀(o:Bw) (W1:World),o.R W1 most→o.xs.length≤50000:=fun o W1 ro=>Nat.le_trans (zaX ro (by have:=zaw (show 64≤1330 by omega);have:p2 64=18446744073709551616:=rfl;omega) (by have:=zaw (show 64≤1330 by omega);have:p2 64=18446744073709551616:=rfl;omega)) (by omega);have HLO:=Hh LO;clear hr1 hr2 e1 e2 c0 c1 c2 c3 LO hd hW;obtain⟨g5,hg5⟩:∃g,g=w1.heap.size:=⟨_,rfl⟩;rw[←hg5] at KX c4 c5 c6 c7 ⊢;have RU0:=RU;have KX0:=KX;have B0:=B1;clear RU B1 hg5 c4 c5 c6 c7;obtain⟨-,-,-,-,c4,c5,c6,c7⟩:=Xb.cells KX0.out;by_cases hV:V≤most
 ·have t1:decide (r1≤0)=true:=by rw[HE1.out];exact decide_eq_true hV
  have HV:=Hh hV;clear hV;refine wp_region_noPanic ?_;refine wp_region_held (S:=fun w'=>w'.cell? ⟨g5,4,none⟩=some (.bool u.w.s)∧w'.cell? ⟨g5,5,none⟩=some (.slice u.w.a u.w.xs.length u.w.c)∧w'.cell? ⟨g5,6,none⟩=some (.bool u.h.s)∧w'.cell? ⟨g5,7,none⟩=some (.slice u.h.a u.h.xs.length u.h.c)) (by kernel_rfl) ?_;change wpAnyH _ _ _ _ _ _ _ _ ((w1.alloc u.obj).drewN 1);rw[←HW.out];have hS0:=(And.intro c4 (And.intro c5 (And.intro c6 c7)));clear c4 c5 c6 c7;refine Tk1 (v:=?_) 0 hS0 ?_ ?_;rotate_left
  ·rintro w' ⟨_,_,_,_⟩;go_simp;first|done|with_reducible rfl|rfl
  simp only[Act.put,LA];refine Tk1 (v:=?_) 1 hS0 ?_ ?_;rotate_left
  ·rintro w' ⟨_,_,_,_⟩;go_simp;first|done|with_reducible rfl|rfl
  simp only[Act.put,LA];refine Tk1 (v:=?_) 2 hS0 ?_ ?_;rotate_left
  ·rintro w' ⟨_,_,_,_⟩;go_simp;first|done|with_reducible rfl|rfl
  simp only[Act.put,LA];refine Rd1 3 fun K hK=>?_;go_simp;refine(zdV most _ hm.1 hm.2).mono ?_;rintro en W1 h_;obtain⟨o1,rfl,r_,b_⟩:=zaj h_;dsimp only;have RO1:=Hh r_;have RU1:=Hh (RU0.out.next b_);have KX1:=Hh ((b_.block _ (zab KX0.out)).trans KX0.out);have B1:=Hh (B0.out.trans (b_.mono B0.out.size));have lo1:=HLO.out _ _ r_;obtain⟨-,-,-,-,c4,c5,c6,c7⟩:=Xb.cells KX1.out;have hS1:=(And.intro c4 (And.intro c5 (And.intro c6 c7)));refine hK.out _ _ hS1 (fun _=>?_);clear hK K h_ r_ b_ c4 c5 c6 c7;refine Rd1 4 fun K hK=>?_;go_simp;refine(zaD u.w.s o1.s u.w.a o1.a u.w.c o1.c u.w.xs o1.xs _ RU1.out.w.us RO1.out.us (by omega) (by omega)).mono ?_;rintro en W2 ⟨rfl,b_⟩;rw[RU1.out.w.v,RO1.out.v,←HR1.out];dsimp only;have RU2:=Hh (RU1.out.next b_);have KX2:=Hh ((b_.block _ (zab KX1.out)).trans KX1.out);have B2:=Hh (B1.out.trans (b_.mono B1.out.size));obtain⟨-,-,-,-,c4,c5,c6,c7⟩:=Xb.cells KX2.out;have hS2:=(And.intro c4 (And.intro c5 (And.intro c6 c7)));refine hK.out _ _ hS2 (fun _=>?_);clear hK K b_ c4 c5 c6 c7;refine Tk1 (v:=?_) 5 hS2 ?_ ?_;rotate_left
  ·rintro w' ⟨_,_,_,_⟩;go_simp;first|done|with_reducible rfl|rfl
  simp only[Act.put,LA];refine Tk1 (v:=?_) 6 hS2 ?_ ?_;rotate_left
  ·rintro w' ⟨_,_,_,_⟩;go_simp;first|done|with_reducible rfl|rfl
  simp only[Act.put,LA];refine Tk1 (v:=?_) 7 hS2 ?_ ?_;rotate_left
  ·rintro w' ⟨_,_,_,_⟩;go_simp;first|done|with_reducible rfl|rfl
  simp only[Act.put,LA];refine Tk1 (v:=?_) 8 hS2 ?_ ?_;rotate_left
  ·rintro w' ⟨_,_,_,_⟩;go_simp;first|done|with_reducible rfl|rfl
  simp only[Act.put,LA];refine Tk1 (v:=?_) 9 hS2 ?_ ?_;rotate_left
  ·rintro w' ⟨_,_,_,_⟩;go_simp;first|done|with_reducible rfl|rfl
  simp only[Act.put,LA];refine Rd1 10 fun K hK=>?_;go_simp;refine(zdV most _ hm.1 hm.2).mono ?_;rintro en W3 h_;obtain⟨o3,rfl,r_,b_⟩:=zaj h_;dsimp only;have RO3:=Hh r_;have RU3:=Hh (RU2.out.next b_);have KX3:=Hh ((b_.block _ (zab KX2.out)).trans KX2.out);have B3:=Hh (B2.out.trans (b_.mono B2.out.size));have lo3:=HLO.out _ _ r_;obtain⟨-,-,-,-,c4,c5,c6,c7⟩:=Xb.cells KX3.out;have hS3:=(And.intro c4 (And.intro c5 (And.intro c6 c7)));refine hK.out _ _ hS3 (fun _=>?_);clear hK K h_ r_ b_ c4 c5 c6 c7;refine Rd1 11 fun K hK=>?_;go_simp;refine(zaD u.h.s o3.s u.h.a o3.a u.h.c o3.c u.h.xs o3.xs _ RU3.out.h.us RO3.out.us (by omega) (by omega)).mono ?_;rintro en W4 ⟨rfl,b_⟩;rw[RU3.out.h.v,RO3.out.v,←HR2.out];dsimp only;have RU4:=Hh (RU3.out.next b_);have KX4:=Hh ((b_.block _ (zab KX3.out)).trans KX3.out);have B4:=Hh (B3.out.trans (b_.mono B3.out.size));obtain⟨-,-,-,-,c4,c5,c6,c7⟩:=Xb.cells KX4.out;have hS4:=(And.intro c4 (And.intro c5 (And.intro c6 c7)));refine hK.out _ _ hS4 (fun _=>?_);clear hK K b_ c4 c5 c6 c7;refine Tk1 (v:=?_) 12 hS4 ?_ ?_;rotate_left
  ·rintro w' ⟨_,_,_,_⟩;go_simp;first|done|with_reducible rfl|rfl
  simp only[Act.put,LA];refine Tk1 (v:=?_) 13 hS4 ?_ ?_;rotate_left
  ·rintro w' ⟨_,_,_,_⟩;go_simp;first|done|with_reducible rfl|rfl
  simp only[Act.put,LA];refine Tk1 (v:=?_) 14 hS4 ?_ ?_;rotate_left
  ·rintro w' ⟨_,_,_,_⟩;go_simp;first|done|with_reducible rfl|rfl
  simp only[Act.put,LA];refine wpAnyH_done (by kernel_rfl) ?_ _;refine NoPanic.normal ?_;go_wp2_with fail;go_ret;exact⟨X,Y,V,H,ok,by rw[decide_eq_true (show V≤most by have:=HV.out;omega),Bool.true_and];first|rfl|(rw[←HE2.out];rfl),BV.out,B4.out⟩
 ·have t1:decide (r1≤0)=false:=by rw[HE1.out];exact decide_eq_false hV
  have HV:=Hh hV;clear hV;refine wp_region_noPanic ?_;refine wp_region_held (S:=fun w'=>w'.cell? ⟨g5,4,none⟩=some (.bool u.w.s)∧w'.cell? ⟨g5,5,none⟩=some (.slice u.w.a u.w.xs.length u.w.c)∧w'.cell? ⟨g5,6,none⟩=some (.bool u.h.s)∧w'.cell? ⟨g5,7,none⟩=some (.slice u.h.a u.h.xs.length u.h.c)) (by kernel_rfl) ?_;change wpAnyH _ _ _ _ _ _ _ _ ((w1.alloc u.obj).drewN 1);rw[←HW.out];have hS0:=(And.intro c4 (And.intro c5 (And.intro c6 c7)));clear c4 c5 c6 c7;refine Tk1 (v:=?_) 0 hS0 ?_ ?_;rotate_left
  ·rintro w' ⟨_,_,_,_⟩;go_simp;first|done|with_reducible rfl|rfl
  simp only[Act.put,LA];refine Tk1 (v:=?_) 1 hS0 ?_ ?_;rotate_left
  ·rintro w' ⟨_,_,_,_⟩;go_simp;first|done|with_reducible rfl|rfl
  simp only[Act.put,LA];refine Tk1 (v:=?_) 2 hS0 ?_ ?_;rotate_left
  ·rintro w' ⟨_,_,_,_⟩;go_simp;first|done|with_reducible rfl|rfl
  simp only[Act.put,LA];refine Rd1 3 fun K hK=>?_;go_simp;refine(zdV most _ hm.1 hm.2).mono ?_;rintro en W1 h_;obtain⟨o1,rfl,r_,b_⟩:=zaj h_;dsimp only;have RO1:=Hh r_;have RU1:=Hh (RU0.out.next b_);have KX1:=Hh ((b_.block _ (zab KX0.out)).trans KX0.out);have B1:=Hh (B0.out.trans (b_.mono B0.out.size));have lo1:=HLO.out _ _ r_;obtain⟨-,-,-,-,c4,c5,c6,c7⟩:=Xb.cells KX1.out;have hS1:=(And.intro c4 (And.intro c5 (And.intro c6 c7)));refine hK.out _ _ hS1 (fun _=>?_);clear hK K h_ r_ b_ c4 c5 c6 c7;refine Rd1 4 fun K hK=>?_;go_simp;refine(zaD u.w.s o1.s u.w.a o1.a u.w.c o1.c u.w.xs o1.xs _ RU1.out.w.us RO1.out.us (by omega) (by omega)).mono ?_;rintro en W2 ⟨rfl,b_⟩;rw[RU1.out.w.v,RO1.out.v,←HR1.out];dsimp only;have RU2:=Hh (RU1.out.next b_);have KX2:=Hh ((b_.block _ (zab KX1.out)).trans KX1.out);have B2:=Hh (B1.out.trans (b_.mono B1.out.size));obtain⟨-,-,-,-,c4,c5,c6,c7⟩:=Xb.cells KX2.out;have hS2:=(And.intro c4 (And.intro c5 (And.intro c6 c7)));refine hK.out _ _ hS2 (fun _=>?_);clear hK K b_ c4 c5 c6 c7;refine Tk1 (v:=?_) 5 hS2 ?_ ?_;rotate_left
  ·rintro w' ⟨_,_,_,_⟩;go_simp;first|done|with_reducible rfl|rfl
  simp only[Act.put,LA];refine Tk1 (v:=?_) 6 hS2 ?_ ?_;rotate_left
  ·rintro w' ⟨_,_,_,_⟩;go_simp;first|done|with_reducible rfl|rfl
  simp only[Act.put,LA];refine Tk0 7 hS2 ?_;simp only[Act.put,LA];refine Tk0 8 hS2 ?_;simp only[Act.put,LA];refine Tk0 9 hS2 ?_;simp only[Act.put,LA];refine Tk0 10 hS2 ?_;simp only[Act.put,LA];refine Tk0 11 hS2 ?_;simp only[Act.put,LA];refine Tk0 12 hS2 ?_;simp only[Act.put,LA];refine Tk1 (v:=?_) 13 hS2 ?_ ?_;rotate_left
  ·rintro w' ⟨_,_,_,_⟩;go_simp;first|done|with_reducible rfl|rfl
  simp only[Act.put,LA];refine Tk1 (v:=?_) 14 hS2 ?_ ?_;rotate_left
  ·rintro w' ⟨_,_,_,_⟩;go_simp;first|done|with_reducible rfl|rfl
  simp only[Act.put,LA];refine wpAnyH_done (by kernel_rfl) ?_ _;refine NoPanic.normal ?_;go_wp2_with fail;go_ret;exact⟨X,Y,V,H,ok,by rw[decide_eq_false (show ¬ V≤most by have:=HV.out;omega),Bool.false_and];rfl,BV.out,B2.out⟩
end Go.Proofs.YtbabbmdpgpcgjaaGreatDoor

namespace Go.Proofs.YtbabbmdpgpcgjaaGreatDoor
open Go.RowKit Nds
structure Bd (W:World)(base bb bm:Nat)(v:Value)(out:List Nd):Prop where
 bx:W.heap[bb]?=some (.cells #[v,.map (some bm)] 186)
 o:OwnN W base v out
 k:KM W bm out
theorem Bd.c0 {W:World}{base bb bm:Nat}{v:Value}{out:List Nd}(h:Bd W base bb bm v out):W.cell? ⟨bb,0,none⟩=some v:=by
 rw[cell_of_row W bb _ _ _ _ h.bx];rfl
theorem Bd.c1 {W:World}{base bb bm:Nat}{v:Value}{out:List Nd}(h:Bd W base bb bm v out):W.cell? ⟨bb,1,none⟩=some (.map (some bm)):=by
 rw[cell_of_row W bb _ _ _ _ h.bx];rfl
theorem Bd.lt {W:World}{base bb bm:Nat}{v:Value}{out:List Nd}(h:Bd W base bb bm v out):bb<W.heap.size:=(Array.getElem?_eq_some_iff.1 h.bx).1
theorem Bd.next {W W1:World}{base bb bm:Nat}{v:Value}{out:List Nd}(h:Bd W base bb bm v out)(k:Below W.heap.size W W1):Bd W1 base bb bm v out :=
 ⟨(k.block bb h.lt).trans h.bx,h.o.gbr ⟨k.os,k.tape,k.output,k.size,fun i hi _=>k.block i hi⟩ (row:=none) (by cases v.ownBlock <;> simp),h.k.stay (k.block bm h.k.lt)⟩
def BdP (bb bm:Nat)(v:Value):Nat→Prop:=fun k=>k=bb∨k=bm∨v.ownBlock=some k
theorem zfd {w:World}{o:Oper}{a:Act}{K:Act→World→Prop}{Q:Exit→Act→World→Prop}(m x v:Operand)
  (hop:o.op=Op.mapUpdate 184 m x v) (b:Nat) (out:List Nd) (y:Nd) (u:Int)
  (hm:a.eval m=.map (some b)) (hx:a.eval x=ndv y) (hv:a.eval v=.int .i64 u) (hu:u=(out.length:Int)+1) (hown:KM w b out) (hS:∀y∈out,y.wf) (hy:y.wf) (hf:fnd out y=0)
  (h:∀w',KM w' b (out++[y])→w.grownBy w' (some b)→K (a.put o.dst undef) w'):Oper.wp Tryz.prog o a w K Q:=by
 subst hu;obtain⟨w',hrun,r1,r2⟩:=hown.putK hS y hy hf;unfold Oper.wp;simp[execOp,hop,hm,hx,hv,hrun,Result.andThen];exact h w' r1 r2
structure Bd_ (W:World)(base bb bm:Nat)(v:Value)(out:List Nd)(x:Nd):Prop where
 bx:W.heap[bb]?=some (.cells #[v,.map (some bm)] 186)
 o:OwnN W base v (out++[x])
 k:KM W bm out
theorem Bd_.c0 {W:World}{base bb bm:Nat}{v:Value}{out:List Nd}{x:Nd}(h:Bd_ W base bb bm v out x):W.cell? ⟨bb,0,none⟩=some v:=by
 rw[cell_of_row W bb _ _ _ _ h.bx];rfl
theorem Bd_.c1 {W:World}{base bb bm:Nat}{v:Value}{out:List Nd}{x:Nd}(h:Bd_ W base bb bm v out x):W.cell? ⟨bb,1,none⟩=some (.map (some bm)):=by
 rw[cell_of_row W bb _ _ _ _ h.bx];rfl
theorem Bd_.lt {W:World}{base bb bm:Nat}{v:Value}{out:List Nd}{x:Nd}(h:Bd_ W base bb bm v out x):bb<W.heap.size:=(Array.getElem?_eq_some_iff.1 h.bx).1
def ztM (base bb bm:Nat)(v:Value)(r:List Nd × Nat)(w:World)(e:Ending)(w':World):Prop :=
 ∃v',e=.returned (.int .i64 (r.2:Int))∧Bd w' base bb bm v' r.1∧(∀k,v'.ownBlock=some k→v.ownBlock=some k∨w.heap.size≤k)∧Ky (BdP bb bm v) w w'
theorem zoz (base bb bm:Nat)(v:Value)(out:List Nd)(x:Nd)(w:World)(h:Bd w base bb bm v out)(hg:zas out)(hx:x.wf)(hd:bb≠bm)(hb:bb<base∧bm<base)(hbs:base≤w.heap.size)(hlen:out.length≤900000) :
  Calls Tryz.prog 181 #[.pointer (some ⟨bb,0,none⟩),ndv x] w (ztM base bb bm v (add out x) w):=by
 obtain⟨W,hW⟩:∃W:World,W=w.alloc (.cells #[.int .i64 x.lv,.int .i64 x.a,.int .i64 x.b,.int .i64 x.c,.int .i64 x.d] 112):=⟨_,rfl⟩;have hB:Below w.heap.size w W:=by rw[hW];exact(Below.refl _ w).alloc (Nat.le_refl _) _
 have hbd:Bd W base bb bm v out:=h.next hB;have hxb:zbs W w.heap.size x:=by rw[hW];exact zbs.new w x
 obtain⟨c1,c2,c3,c4,c5⟩:=hxb.at_
 have d0:=hbd.c0;have d1:=hbd.c1;have hlk:=fun nq=>(hbd.next (zac (Below.refl _ W) nq)).k.lookK hg h.o.1 x hx;obtain⟨f,hf⟩:∃f,f=fnd out x:=⟨_,rfl⟩;rw[←hf] at hlk;have HF:=Hh hf;have HW:=Hh hW;have HB:=Hh hB;have HBD:=Hh hbd;have HXB:=Hh hxb;have HH:=Hh h;rw[hW] at c1 c2 c3 c4 c5 d0 d1 hlk;clear h hW hB hbd hxb hf;by_cases hz:f=0
 ·subst hz;go_enter Tryz.func181,Tryz.ntmps181;go_wp2_with fail;go_quiet (fail);go_wp2_with fail;have HF:=Hh (show(0:Nat)=fnd out x from HF.out);obtain⟨gx,hgx⟩:∃gx,gx=w.heap.size:=⟨_,rfl⟩;have HGX:=Hh hgx;rw[←hgx];have HXB':=Hh (show zbs W gx x by rw[hgx];exact HXB.out);clear hgx c1 c2 c3 c4 c5 d0 d1 hlk;refine wp_region_noPanic ?_;refine wp_region_held (S:=fun w'=>w'.cell? ⟨gx,0,none⟩=some (.int .i64 x.lv)∧w'.cell? ⟨gx,1,none⟩=some (.int .i64 x.a)∧w'.cell? ⟨gx,2,none⟩=some (.int .i64 x.b)∧w'.cell? ⟨gx,3,none⟩=some (.int .i64 x.c)∧w'.cell? ⟨gx,4,none⟩=some (.int .i64 x.d)) (by kernel_rfl) ?_;obtain⟨W0,hW0⟩:∃W0:World,W0=((w.alloc (.cells #[.int .i64 x.lv,.int .i64 x.a,.int .i64 x.b,.int .i64 x.c,.int .i64 x.d] 112)).drewN nq).drew:=⟨_,rfl⟩;have hb0:Below W.heap.size W W0:=by rw[hW0,←HW.out];exact zac (zac (Below.refl _ W) nq) 1
  have B0:=Hh (HBD.out.next hb0);have X0:=Hh (HXB'.out.stay (hb0.block gx HXB'.out.lt));have L0:=Hh (HB.out.trans (hb0.mono HB.out.size));have hS0:=X0.out.at_
  change wpAnyH _ _ _ _ _ _ _ _ ((w.alloc (.cells #[.int .i64 x.lv,.int .i64 x.a,.int .i64 x.b,.int .i64 x.c,.int .i64 x.d] 112)).drewN nq).drew;rw[←hW0];clear hW0 hb0;refine Tk1 (v:=?_) 0 hS0 ?_ ?_;rotate_left
  ·rintro w' ⟨s1,s2,s3,s4,s5⟩;go_simp;first|done|with_reducible rfl|rfl
  simp only[Act.put,LA];refine Tk1 (v:=?_) 1 hS0 ?_ ?_;rotate_left
  ·rintro w' ⟨s1,s2,s3,s4,s5⟩;go_simp;first|done|with_reducible rfl|rfl
  simp only[Act.put,LA];refine Tk1 (v:=?_) 2 hS0 ?_ ?_;rotate_left
  ·rintro w' ⟨s1,s2,s3,s4,s5⟩;go_simp;first|done|with_reducible rfl|rfl
  simp only[Act.put,LA];refine Tk1 (v:=?_) 3 hS0 ?_ ?_;rotate_left
  ·rintro w' ⟨s1,s2,s3,s4,s5⟩;go_simp;first|done|with_reducible rfl|rfl
  simp only[Act.put,LA];refine Tk1 (v:=?_) 5 hS0 ?_ ?_;rotate_left
  ·rintro w' ⟨s1,s2,s3,s4,s5⟩;go_simp;first|done|with_reducible rfl|rfl
  simp only[Act.put,LA];refine Rd2 4 6 (fun K hK=>?_) fun K hK=>?_
  ·have q0:=B0.out.c0;go_simp;refine hK.out _ _ X0.out.at_ (fun _=>?_)
   clear hK K q0;refine Rd1 6 fun K hK=>?_;go_simp;obtain⟨g1,hg1⟩:∃g,g=W0.heap.size:=⟨_,rfl⟩;obtain⟨W1,hW1⟩:∃Z:World,Z=W0.alloc (.cells #[.int .i64 x.lv,.int .i64 x.a,.int .i64 x.b,.int .i64 x.c,.int .i64 x.d] 112):=⟨_,rfl⟩;have hbl:=(Below.refl W0.heap.size W0).alloc (Nat.le_refl _) (.cells #[.int .i64 x.lv,.int .i64 x.a,.int .i64 x.b,.int .i64 x.c,.int .i64 x.d] 112);rw[←hW1] at hbl;have B1:=Hh (B0.out.next hbl);have X1:=Hh (X0.out.stay (hbl.block gx X0.out.lt));have L1:=Hh (L0.out.trans (hbl.mono L0.out.size));have NS:=Hh (show Ns W1 (some ⟨g1,0,none⟩) 1 [x] by rw[hW1];exact zql W0 g1 x hx hg1.symm);have hgl:W0.heap.size<W1.heap.size:=by rw[hW1];simp
   rw[←hg1,←hW1];clear hg1 hW1 hbl;refine hK.out _ _ X1.out.at_ (fun _=>?_)
   clear hK K;refine Rd1 7 fun K hK=>?_;rw[if_pos (by rfl)];refine zcQ (.tmp 19) (.tmp 21) rfl base v out [x] (some ⟨g1,0,none⟩) 1 1 rfl rfl B1.out.o NS.out rfl (fun e=>by cases e) (by omega) (Nat.le_trans hbs L1.out.size) ?_;intro v2 W6 ho hgw hat;simp only[Act.put,LA];have hvb:∀k,v.ownBlock=some k→base≤k:=fun k hk=>(HH.out.o.lt k hk).1;have nb:∀k,k<base→(some k:Option Nat)≠v.ownBlock:=fun k hk e=>by have:=hvb k e.symm;omega
   have hbx6:=(hgw.block bb B1.out.lt (nb bb hb.1)).trans B1.out.bx;have X6:=Hh (X1.out.stay (hgw.block gx X1.out.lt (fun e=>absurd (HH.out.o.lt gx e.symm).2 (by rw[HGX.out];omega))));have K6:=Hh (B1.out.k.stay (hgw.block bm B1.out.k.lt (nb bm hb.2)));have Y6:=Hh ((Ky.refl (BdP bb bm v) w).below L1.out |>.gb hgw (fun i hi e=>.inr (.inr e)));have O6:=Hh ho;have HB6:=Hh hbx6;have HT6:=Hh (show ∀k,v2.ownBlock=some k→v.ownBlock=some k∨w.heap.size≤k from fun k hk=>by
    rcases hat with e|e
    ·exact .inl (e.symm.trans hk)
    ·rw[e] at hk;have:=L1.out.size;have h9:=Option.some.inj hk;exact .inr (by omega))
   obtain⟨A2,c2,hv2,hN2,-,-⟩:=ho.shape;rw[show(out++[x]).length=out.length+1 by simp] at hv2;subst hv2;refine hK.out _ _ X6.out.at_ (fun _=>?_)
   clear hK K ho hgw hat hN2 hbx6;refine Tk1 (v:=?_) 8 X6.out.at_ ?_ ?_;rotate_left
   ·rintro w' ⟨s1,s2,s3,s4,s5⟩;go_simp;first|done|with_reducible rfl|rfl
   simp only[Act.put,LA];refine Tk1 (v:=?_) 9 X6.out.at_ ?_ ?_;rotate_left
   ·rintro w' ⟨s1,s2,s3,s4,s5⟩;go_simp;first|done|with_reducible rfl|rfl
   simp only[Act.put,LA];refine Rd1 10 fun K hK=>?_;have e0:W6.cell? ⟨bb,0,none⟩=some v:=by rw[cell_of_row W6 bb _ _ _ _ HB6.out];rfl
   have e1:W6.frozen? ⟨bb,0,none⟩=false:=frozen_of_row W6 bb 0 _ _ HB6.out;go_simp;have hset:=heap_setCell_same W6 bb 0 _ _ (.slice A2 (out.length+1) c2) HB6.out;obtain⟨W7,hW7⟩:∃Z:World,Z=W6.setCell ⟨bb,0,none⟩ (.slice A2 (out.length+1) c2):=⟨_,rfl⟩;have hgs:=zcR W6 ⟨bb,0,none⟩ (.slice A2 (out.length+1) c2);rw[←hW7] at hset hgs ⊢;have B7:=Hh (show Bd_ W7 base bb bm (.slice A2 (out.length+1) c2) out x from⟨hset,O6.out.gbr hgs (zbK (fun k hk e=>by have h1:=(O6.out.lt k hk).1;have h2:=hb.1;have h3:=Option.some.inj e;dsimp only at h3;omega)),K6.out.stay (hgs.block bm K6.out.lt (fun e=>hd (Option.some.inj e).symm))⟩);have X7:=Hh (X6.out.stay (hgs.block gx X6.out.lt (fun e=>by have h3:=Option.some.inj e;dsimp only at h3;have:=HGX.out;have:=hb.1;omega)));have Y7:=Hh (Y6.out.gb hgs (fun i hi e=>.inl (Option.some.inj e).symm));refine hK.out _ _ X7.out.at_ (fun _=>?_)
   clear hK K e0 e1 hset hgs hW7;refine wpAnyH_done (by kernel_rfl) ?_ _;refine NoPanic.normal ?_;go_wp2_with fail;refine wp_region_noPanic ?_;refine wp_region_held (S:=fun w'=>(w'.cell? ⟨bb,0,none⟩=some (.slice A2 (out.length+1) c2)∧w'.cell? ⟨bb,1,none⟩=some (.map (some bm)))∧(w'.cell? ⟨gx,0,none⟩=some (.int .i64 x.lv)∧w'.cell? ⟨gx,1,none⟩=some (.int .i64 x.a)∧w'.cell? ⟨gx,2,none⟩=some (.int .i64 x.b)∧w'.cell? ⟨gx,3,none⟩=some (.int .i64 x.c)∧w'.cell? ⟨gx,4,none⟩=some (.int .i64 x.d))) (by kernel_rfl) ?_;obtain⟨W8,hW8⟩:∃Z:World,Z=W7.drew:=⟨_,rfl⟩;have B8:=Hh (show Bd_ W8 base bb bm (.slice A2 (out.length+1) c2) out x by rw[hW8];exact⟨B7.out.bx,⟨B7.out.o.1,B7.out.o.2⟩,B7.out.k⟩);have X8:=Hh (show zbs W8 gx x by rw[hW8];exact X7.out);have Y8:=Hh (show Ky (BdP bb bm v) w W8 by rw[hW8];exact⟨Y7.out.os,Y7.out.tape,Y7.out.output,Y7.out.size,Y7.out.block⟩);have hS8:=And.intro (And.intro B8.out.c0 B8.out.c1) X8.out.at_
   change wpAnyH _ _ _ _ _ _ _ _ W7.drew;rw[←hW8];clear hW8;refine Tk1 (v:=?_) 0 hS8 ?_ ?_;rotate_left
   ·rintro w' ⟨⟨r1,r2⟩,s1,s2,s3,s4,s5⟩;go_simp;first|done|with_reducible rfl|rfl
   simp only[Act.put,LA];refine Tk1 (v:=?_) 1 hS8 ?_ ?_;rotate_left
   ·rintro w' ⟨⟨r1,r2⟩,s1,s2,s3,s4,s5⟩;go_simp;first|done|with_reducible rfl|rfl
   simp only[Act.put,LA];refine Tk1 (v:=?_) 2 hS8 ?_ ?_;rotate_left
   ·rintro w' ⟨⟨r1,r2⟩,s1,s2,s3,s4,s5⟩;go_simp;first|done|with_reducible rfl|rfl
   simp only[Act.put,LA];refine Tk1 (v:=?_) 3 hS8 ?_ ?_;rotate_left
   ·rintro w' ⟨⟨r1,r2⟩,s1,s2,s3,s4,s5⟩;go_simp;first|done|with_reducible rfl|rfl
   simp only[Act.put,LA];refine Tk1 (v:=?_) 4 hS8 ?_ ?_;rotate_left
   ·rintro w' ⟨⟨r1,r2⟩,s1,s2,s3,s4,s5⟩;go_simp;first|done|with_reducible rfl|rfl
   simp only[Act.put,LA];refine Tk1 (v:=?_) 5 hS8 ?_ ?_;rotate_left
   ·rintro w' ⟨⟨r1,r2⟩,s1,s2,s3,s4,s5⟩;go_simp;first|done|with_reducible rfl|rfl
   simp only[Act.put,LA];refine Tk1 (v:=?_) 6 hS8 ?_ ?_;rotate_left
   ·rintro w' ⟨⟨r1,r2⟩,s1,s2,s3,s4,s5⟩;go_simp;first|done|with_reducible rfl|rfl
   simp only[Act.put,LA];refine Tk1 (v:=?_) 7 hS8 ?_ ?_;rotate_left
   ·rintro w' ⟨⟨r1,r2⟩,s1,s2,s3,s4,s5⟩;go_simp;first|done|with_reducible rfl|rfl
   simp only[Act.put,LA];refine Tk1 (v:=?_) 8 hS8 ?_ ?_;rotate_left
   ·rintro w' ⟨⟨r1,r2⟩,s1,s2,s3,s4,s5⟩;go_simp;first|done|with_reducible rfl|rfl
   simp only[Act.put,LA];refine Tk1 (v:=?_) 9 hS8 ?_ ?_;rotate_left
   ·rintro w' ⟨⟨r1,r2⟩,s1,s2,s3,s4,s5⟩;go_simp;first|done|with_reducible rfl|rfl
   simp only[Act.put,LA];refine Rd1 10 fun K hK=>?_;rw[if_pos (by rfl)];refine zfd (.tmp 28) (.tmp 29) (.tmp 34) rfl bm out x _ rfl rfl rfl (by omega) B8.out.k HH.out.o.1 hx HF.out.symm ?_;intro W9 m9 g9;simp only[Act.put,LA];have hb9:=(g9.block bb B8.out.lt (fun e=>hd (Option.some.inj e))).trans B8.out.bx;have k9:W9.cell? ⟨bb,0,none⟩=some (.slice A2 (out.length+1) c2):=by rw[cell_of_row W9 bb _ _ _ _ hb9];rfl
   have k9b:W9.cell? ⟨bb,1,none⟩=some (.map (some bm)):=by rw[cell_of_row W9 bb _ _ _ _ hb9];rfl
   have X9:=Hh (X8.out.stay (g9.block gx X8.out.lt (fun e=>by have h3:=Option.some.inj e;have:=HGX.out;have:=hb.2;omega)));have M9:=Hh m9;have G9:=Hh g9;have HB9:=Hh hb9;refine hK.out _ _ ⟨⟨k9,k9b⟩,X9.out.at_⟩ (fun _=>?_);clear hK K m9 g9 hb9 k9b;refine wpAnyH_done (by kernel_rfl) ?_ _;refine NoPanic.normal ?_;go_wp2_with fail;go_ret;unfold ztM add;rw[if_pos HF.out.symm];refine⟨_,?_,⟨HB9.out,B8.out.o.gbr G9.out (zbK (fun k hk e=>by have h1:=(B8.out.o.lt k hk).1;have h2:=hb.2;have h3:=Option.some.inj e;omega)),M9.out⟩,HT6.out,Y8.out.gb G9.out (fun i hi e=>.inr (.inl (Option.some.inj e).symm))⟩;show Ending.returned (.int .i64 _)=.returned (.int .i64 _);congr 2
   try omega
  ·go_simp;obtain⟨g1,hg1⟩:∃g,g=W0.heap.size:=⟨_,rfl⟩;obtain⟨W1,hW1⟩:∃Z:World,Z=W0.alloc (.cells #[.int .i64 x.lv,.int .i64 x.a,.int .i64 x.b,.int .i64 x.c,.int .i64 x.d] 112):=⟨_,rfl⟩;have hbl:=(Below.refl W0.heap.size W0).alloc (Nat.le_refl _) (.cells #[.int .i64 x.lv,.int .i64 x.a,.int .i64 x.b,.int .i64 x.c,.int .i64 x.d] 112);rw[←hW1] at hbl;have B1:=Hh (B0.out.next hbl);have X1:=Hh (X0.out.stay (hbl.block gx X0.out.lt));have L1:=Hh (L0.out.trans (hbl.mono L0.out.size));have NS:=Hh (show Ns W1 (some ⟨g1,0,none⟩) 1 [x] by rw[hW1];exact zql W0 g1 x hx hg1.symm);have hgl:W0.heap.size<W1.heap.size:=by rw[hW1];simp
   rw[←hg1,←hW1];clear hg1 hW1 hbl;refine hK.out _ _ X1.out.at_ (fun _=>?_)
   clear hK K;refine Rd1 4 fun K hK=>?_;have q0:=B1.out.c0;go_simp;refine hK.out _ _ X1.out.at_ (fun _=>?_)
   clear hK K q0;refine Rd1 7 fun K hK=>?_;rw[if_pos (by rfl)];refine zcQ (.tmp 19) (.tmp 21) rfl base v out [x] (some ⟨g1,0,none⟩) 1 1 rfl rfl B1.out.o NS.out rfl (fun e=>by cases e) (by omega) (Nat.le_trans hbs L1.out.size) ?_;intro v2 W6 ho hgw hat;simp only[Act.put,LA];have hvb:∀k,v.ownBlock=some k→base≤k:=fun k hk=>(HH.out.o.lt k hk).1;have nb:∀k,k<base→(some k:Option Nat)≠v.ownBlock:=fun k hk e=>by have:=hvb k e.symm;omega
   have hbx6:=(hgw.block bb B1.out.lt (nb bb hb.1)).trans B1.out.bx;have X6:=Hh (X1.out.stay (hgw.block gx X1.out.lt (fun e=>absurd (HH.out.o.lt gx e.symm).2 (by rw[HGX.out];omega))));have K6:=Hh (B1.out.k.stay (hgw.block bm B1.out.k.lt (nb bm hb.2)));have Y6:=Hh ((Ky.refl (BdP bb bm v) w).below L1.out |>.gb hgw (fun i hi e=>.inr (.inr e)));have O6:=Hh ho;have HB6:=Hh hbx6;have HT6:=Hh (show ∀k,v2.ownBlock=some k→v.ownBlock=some k∨w.heap.size≤k from fun k hk=>by
    rcases hat with e|e
    ·exact .inl (e.symm.trans hk)
    ·rw[e] at hk;have:=L1.out.size;have h9:=Option.some.inj hk;exact .inr (by omega))
   obtain⟨A2,c2,hv2,hN2,-,-⟩:=ho.shape;rw[show(out++[x]).length=out.length+1 by simp] at hv2;subst hv2;refine hK.out _ _ X6.out.at_ (fun _=>?_)
   clear hK K ho hgw hat hN2 hbx6;refine Tk1 (v:=?_) 8 X6.out.at_ ?_ ?_;rotate_left
   ·rintro w' ⟨s1,s2,s3,s4,s5⟩;go_simp;first|done|with_reducible rfl|rfl
   simp only[Act.put,LA];refine Tk1 (v:=?_) 9 X6.out.at_ ?_ ?_;rotate_left
   ·rintro w' ⟨s1,s2,s3,s4,s5⟩;go_simp;first|done|with_reducible rfl|rfl
   simp only[Act.put,LA];refine Rd1 10 fun K hK=>?_;have e0:W6.cell? ⟨bb,0,none⟩=some v:=by rw[cell_of_row W6 bb _ _ _ _ HB6.out];rfl
   have e1:W6.frozen? ⟨bb,0,none⟩=false:=frozen_of_row W6 bb 0 _ _ HB6.out;go_simp;have hset:=heap_setCell_same W6 bb 0 _ _ (.slice A2 (out.length+1) c2) HB6.out;obtain⟨W7,hW7⟩:∃Z:World,Z=W6.setCell ⟨bb,0,none⟩ (.slice A2 (out.length+1) c2):=⟨_,rfl⟩;have hgs:=zcR W6 ⟨bb,0,none⟩ (.slice A2 (out.length+1) c2);rw[←hW7] at hset hgs ⊢;have B7:=Hh (show Bd_ W7 base bb bm (.slice A2 (out.length+1) c2) out x from⟨hset,O6.out.gbr hgs (zbK (fun k hk e=>by have h1:=(O6.out.lt k hk).1;have h2:=hb.1;have h3:=Option.some.inj e;dsimp only at h3;omega)),K6.out.stay (hgs.block bm K6.out.lt (fun e=>hd (Option.some.inj e).symm))⟩);have X7:=Hh (X6.out.stay (hgs.block gx X6.out.lt (fun e=>by have h3:=Option.some.inj e;dsimp only at h3;have:=HGX.out;have:=hb.1;omega)));have Y7:=Hh (Y6.out.gb hgs (fun i hi e=>.inl (Option.some.inj e).symm));refine hK.out _ _ X7.out.at_ (fun _=>?_)
   clear hK K e0 e1 hset hgs hW7;refine wpAnyH_done (by kernel_rfl) ?_ _;refine NoPanic.normal ?_;go_wp2_with fail;refine wp_region_noPanic ?_;refine wp_region_held (S:=fun w'=>(w'.cell? ⟨bb,0,none⟩=some (.slice A2 (out.length+1) c2)∧w'.cell? ⟨bb,1,none⟩=some (.map (some bm)))∧(w'.cell? ⟨gx,0,none⟩=some (.int .i64 x.lv)∧w'.cell? ⟨gx,1,none⟩=some (.int .i64 x.a)∧w'.cell? ⟨gx,2,none⟩=some (.int .i64 x.b)∧w'.cell? ⟨gx,3,none⟩=some (.int .i64 x.c)∧w'.cell? ⟨gx,4,none⟩=some (.int .i64 x.d))) (by kernel_rfl) ?_;obtain⟨W8,hW8⟩:∃Z:World,Z=W7.drew:=⟨_,rfl⟩;have B8:=Hh (show Bd_ W8 base bb bm (.slice A2 (out.length+1) c2) out x by rw[hW8];exact⟨B7.out.bx,⟨B7.out.o.1,B7.out.o.2⟩,B7.out.k⟩);have X8:=Hh (show zbs W8 gx x by rw[hW8];exact X7.out);have Y8:=Hh (show Ky (BdP bb bm v) w W8 by rw[hW8];exact⟨Y7.out.os,Y7.out.tape,Y7.out.output,Y7.out.size,Y7.out.block⟩);have hS8:=And.intro (And.intro B8.out.c0 B8.out.c1) X8.out.at_
   change wpAnyH _ _ _ _ _ _ _ _ W7.drew;rw[←hW8];clear hW8;refine Tk1 (v:=?_) 0 hS8 ?_ ?_;rotate_left
   ·rintro w' ⟨⟨r1,r2⟩,s1,s2,s3,s4,s5⟩;go_simp;first|done|with_reducible rfl|rfl
   simp only[Act.put,LA];refine Tk1 (v:=?_) 1 hS8 ?_ ?_;rotate_left
   ·rintro w' ⟨⟨r1,r2⟩,s1,s2,s3,s4,s5⟩;go_simp;first|done|with_reducible rfl|rfl
   simp only[Act.put,LA];refine Tk1 (v:=?_) 2 hS8 ?_ ?_;rotate_left
   ·rintro w' ⟨⟨r1,r2⟩,s1,s2,s3,s4,s5⟩;go_simp;first|done|with_reducible rfl|rfl
   simp only[Act.put,LA];refine Tk1 (v:=?_) 3 hS8 ?_ ?_;rotate_left
   ·rintro w' ⟨⟨r1,r2⟩,s1,s2,s3,s4,s5⟩;go_simp;first|done|with_reducible rfl|rfl
   simp only[Act.put,LA];refine Tk1 (v:=?_) 4 hS8 ?_ ?_;rotate_left
   ·rintro w' ⟨⟨r1,r2⟩,s1,s2,s3,s4,s5⟩;go_simp;first|done|with_reducible rfl|rfl
   simp only[Act.put,LA];refine Tk1 (v:=?_) 5 hS8 ?_ ?_;rotate_left
   ·rintro w' ⟨⟨r1,r2⟩,s1,s2,s3,s4,s5⟩;go_simp;first|done|with_reducible rfl|rfl
   simp only[Act.put,LA];refine Tk1 (v:=?_) 6 hS8 ?_ ?_;rotate_left
   ·rintro w' ⟨⟨r1,r2⟩,s1,s2,s3,s4,s5⟩;go_simp;first|done|with_reducible rfl|rfl
   simp only[Act.put,LA];refine Tk1 (v:=?_) 7 hS8 ?_ ?_;rotate_left
   ·rintro w' ⟨⟨r1,r2⟩,s1,s2,s3,s4,s5⟩;go_simp;first|done|with_reducible rfl|rfl
   simp only[Act.put,LA];refine Tk1 (v:=?_) 8 hS8 ?_ ?_;rotate_left
   ·rintro w' ⟨⟨r1,r2⟩,s1,s2,s3,s4,s5⟩;go_simp;first|done|with_reducible rfl|rfl
   simp only[Act.put,LA];refine Tk1 (v:=?_) 9 hS8 ?_ ?_;rotate_left
   ·rintro w' ⟨⟨r1,r2⟩,s1,s2,s3,s4,s5⟩;go_simp;first|done|with_reducible rfl|rfl
   simp only[Act.put,LA];refine Rd1 10 fun K hK=>?_;rw[if_pos (by rfl)];refine zfd (.tmp 28) (.tmp 29) (.tmp 34) rfl bm out x _ rfl rfl rfl (by omega) B8.out.k HH.out.o.1 hx HF.out.symm ?_;intro W9 m9 g9;simp only[Act.put,LA];have hb9:=(g9.block bb B8.out.lt (fun e=>hd (Option.some.inj e))).trans B8.out.bx;have k9:W9.cell? ⟨bb,0,none⟩=some (.slice A2 (out.length+1) c2):=by rw[cell_of_row W9 bb _ _ _ _ hb9];rfl
   have k9b:W9.cell? ⟨bb,1,none⟩=some (.map (some bm)):=by rw[cell_of_row W9 bb _ _ _ _ hb9];rfl
   have X9:=Hh (X8.out.stay (g9.block gx X8.out.lt (fun e=>by have h3:=Option.some.inj e;have:=HGX.out;have:=hb.2;omega)));have M9:=Hh m9;have G9:=Hh g9;have HB9:=Hh hb9;refine hK.out _ _ ⟨⟨k9,k9b⟩,X9.out.at_⟩ (fun _=>?_);clear hK K m9 g9 hb9 k9b;refine wpAnyH_done (by kernel_rfl) ?_ _;refine NoPanic.normal ?_;go_wp2_with fail;go_ret;unfold ztM add;rw[if_pos HF.out.symm];refine⟨_,?_,⟨HB9.out,B8.out.o.gbr G9.out (zbK (fun k hk e=>by have h1:=(B8.out.o.lt k hk).1;have h2:=hb.2;have h3:=Option.some.inj e;omega)),M9.out⟩,HT6.out,Y8.out.gb G9.out (fun i hi e=>.inr (.inl (Option.some.inj e).symm))⟩;show Ending.returned (.int .i64 _)=.returned (.int .i64 _);congr 2
   try omega
 ·have t1:((f:Int)!=0)=true:=by rw[bne_iff_ne];omega
  have HZ:=Hh hz;clear hz;go_enter Tryz.func181,Tryz.ntmps181;go_wp2_with fail;go_quiet (fail);go_wp2_with fail;go_ret;have hlb:Below W.heap.size W (W.drewN nq):=zac (Below.refl _ W) nq;unfold ztM add;rw[if_neg (fun e=>HZ.out (HF.out.trans e))];rw[←HW.out];refine⟨v,?_,HBD.out.next hlb,fun k hk=>.inl hk,(Ky.refl _ w).below (HB.out.trans (hlb.mono HB.out.size))⟩;rw[←HF.out];rfl
end Go.Proofs.YtbabbmdpgpcgjaaGreatDoor

namespace Go.Proofs.YtbabbmdpgpcgjaaGreatDoor
open Nds Num
def Cv.cn (v:Cv):Cl:=⟨(val v.xs:Nat),(val v.ys:Nat),v.st⟩
def inQ (m i:Nat)(v:Cv):Bool:=quaC v m==i
def zaF:Nat→List Cv→Tr
 | 0,[]=>.e
 | 0,v :: _=>.s v.st
 | m+1,l=>mk ((m:Int)+1) (zaF m (l.filter (inQ m 0))) (zaF m (l.filter (inQ m 1))) (zaF m (l.filter (inQ m 2))) (zaF m (l.filter (inQ m 3)))
theorem zdJ:∀m,zaF m []=.e
 | 0=>rfl
 | m+1=>by
  show mk _ (zaF m []) (zaF m []) (zaF m []) (zaF m [])=.e;rw[zdJ m];rfl
theorem ztN (m:Nat)(v:Cv):inQ m 0 v=true∨inQ m 1 v=true∨inQ m 2 v=true∨inQ m 3 v=true:=by
 have h:=znl m (val v.xs) (val v.ys);unfold inQ quaC;simp only[beq_iff_eq];omega
theorem zrd {l:List Cv}{p:Cv→Bool}{v:Cv}(h:v∈l)(hp:p v=true):l.filter p≠[]:=fun e=>by
 have:=List.mem_filter.2 ⟨h,hp⟩;rw[e] at this;cases this
theorem znu:∀(m:Nat) {l:List Cv},l≠[]→zaF m l≠.e
 | 0,[],h=>absurd rfl h
 | 0,v :: l,_=>fun e=>by cases e
 | m+1,l,h=>by
  obtain⟨v,hv⟩:=List.exists_mem_of_ne_nil l h;show mk _ _ _ _ _≠.e;rw[←zve,zpX];unfold allE;have key:∀i,inQ m i v=true→(zaF m (l.filter (inQ m i))).isE=false:=fun i hi=>zve.2 (znu m (zrd hv hi));rcases ztN m v with h|h|h|h <;> rw[key _ h] <;> simp
theorem zfe:∀(m:Nat) (l:List Cv),m≤1329→(∀v∈l,1≤v.st∧v.st≤255)→wfT (m:Int) (zaF m l)
 | 0,[],_,_=>trivial
 | 0,v :: l,_,h=>by
  have:=h v (by simp);exact⟨rfl,by omega,by omega⟩
 | m+1,l,hm,h=>by
  have sub:∀i,wfT (m:Int) (zaF m (l.filter (inQ m i))):=fun i=>zfe m _ (by omega) (fun v hv=>h v (List.mem_filter.1 hv).1);have e:(((m+1:Nat)):Int)=(m:Int)+1:=by omega
  rw[e];refine zvW ⟨by omega,by omega⟩ ?_ ?_ ?_ ?_ <;> (rw[show(m:Int)+1-1=(m:Int) by omega];exact sub _)
theorem ziw (m i:Nat)(x y:Nat):∀(l:List Cv),lk ((l.filter (inQ m i)).map Cv.cn) x y=if qtr m x y=i then lk (l.map Cv.cn) x y else 0
 | []=>by
  show(0:Int)=if _ then 0 else 0
  split <;> rfl
 | v :: l=>by
  rw[List.filter_cons];have hp:v.cn.x=(x:Int)∧v.cn.y=(y:Int)→quaC v m=qtr m x y:=fun h=>by
   have h1:val v.xs=x:=by have:=h.1;simp only[Cv.cn] at this;omega
   have h2:val v.ys=y:=by have:=h.2;simp only[Cv.cn] at this;omega
   unfold quaC;rw[h1,h2]
  by_cases hc:inQ m i v=true
  ·rw[if_pos hc,List.map_cons,List.map_cons];unfold lk;rw[ziw m i x y l];by_cases hxy:v.cn.x=(x:Int)∧v.cn.y=(y:Int)
   ·have h1:quaC v m=i:=by unfold inQ at hc;simpa using hc
    rw[if_pos hxy,if_pos hxy,if_pos (by rw[←hp hxy];exact h1)]
   ·rw[if_neg hxy,if_neg hxy]
  ·rw[if_neg hc,ziw m i x y l,List.map_cons];by_cases hq:qtr m x y=i
   ·rw[if_pos hq,if_pos hq]
    conv=>rhs;unfold lk
    rw[if_neg (fun hxy=>hc (by unfold inQ;rw[hp hxy,hq];simp))]
   ·rw[if_neg hq,if_neg hq]
theorem zkG {l:List Cv}{x y:Int}(h:x<0∨y<0):lk (l.map Cv.cn) x y=0:=zbr fun c hc hcp=>by
 obtain⟨v,_,rfl⟩:=List.mem_map.1 hc;have h1:=hcp.1;have h2:=hcp.2;simp only[Cv.cn] at h1 h2;omega
theorem zmd (m:Nat)(l:List Cv)(x y:Int):lk ((l.filter (inQ m 0)).map Cv.cn) x y+lk ((l.filter (inQ m 1)).map Cv.cn) x y+lk ((l.filter (inQ m 2)).map Cv.cn) x y+lk ((l.filter (inQ m 3)).map Cv.cn) x y=lk (l.map Cv.cn) x y:=by
 by_cases hn:x<0∨y<0
 ·rw[zkG hn,zkG hn,zkG hn,zkG hn,zkG hn];rfl
 ·obtain⟨a,rfl⟩:=Int.eq_ofNat_of_zero_le (show 0≤x by omega);obtain⟨b,rfl⟩:=Int.eq_ofNat_of_zero_le (show 0≤y by omega);rw[ziw,ziw,ziw,ziw];have h:=znl m a b;generalize qtr m a b=q at h;obtain rfl|rfl|rfl|rfl:q=0∨q=1∨q=2∨q=3:=by omega
  all_goals simp
def HiB (m hx hy:Nat)(l:List Cv):Prop:=∀v∈l,val v.xs / 2^m=hx∧val v.ys / 2^m=hy
theorem zix {m hx hy i:Nat}{l:List Cv}(h:HiB (m+1) hx hy l)(hi:i<4):HiB m (2*hx+i%2) (2*hy+i / 2) (l.filter (inQ m i)):=fun v hv=>by
 obtain⟨h1,h2⟩:=List.mem_filter.1 hv;obtain⟨h3,h4⟩:=h v h1;unfold inQ quaC qtr at h2;simp only[beq_iff_eq] at h2;rw[Nat.pow_succ,←Nat.div_div_eq_div_mul] at h3 h4;omega
theorem zhq:∀(m:Nat) (l:List Cv) (hx hy:Nat),m≤1329→(∀v∈l,1≤v.st∧v.st≤255)→HiB m hx hy l→(l.map Cv.cn).Pairwise (fun a b=>¬ (a.x=b.x∧a.y=b.y)) →
  ∀x y,zae (zaF m l) x y=lk (l.map Cv.cn) (x+hx*p2 m) (y+hy*p2 m)
 | 0,[],hx,hy,_,_,_,_,x,y=>rfl
 | 0,v :: l,hx,hy,_,_,hb,hp,x,y=>by
  have hnil:l=[]:=by
   cases l with
   | nil=>rfl
   | cons u l =>
    have h1:=List.rel_of_pairwise_cons hp (a':=u.cn) (by simp);obtain⟨a1,a2⟩:=hb v (by simp);obtain⟨b1,b2⟩:=hb u (by simp);simp only[Nat.pow_zero,Nat.div_one] at a1 a2 b1 b2;exact absurd ⟨by simp only[Cv.cn];omega,by simp only[Cv.cn];omega⟩ h1
  subst hnil;obtain⟨a1,a2⟩:=hb v (by simp);simp only[Nat.pow_zero,Nat.div_one] at a1 a2;show(if x=0∧y=0 then (v.st:Int) else 0)=if v.cn.x=_∧v.cn.y=_ then (v.st:Int) else 0
  rw[zft];have k1:v.cn.x=(hx:Int):=by simp only[Cv.cn];omega
  have k2:v.cn.y=(hy:Int):=by simp only[Cv.cn];omega
  by_cases h0:x=0∧y=0
  ·rw[if_pos h0,if_pos ⟨by omega,by omega⟩]
  ·rw[if_neg h0,if_neg (by omega)]
 | m+1,l,hx,hy,hm,hs,hb,hp,x,y=>by
  have sub:∀i,wfT (m:Int) (zaF m (l.filter (inQ m i))):=fun i=>zfe m _ (by omega) (fun v hv=>hs v (List.mem_filter.1 hv).1);have ih:∀i,i<4→∀x y,zae (zaF m (l.filter (inQ m i))) x y=lk ((l.filter (inQ m i)).map Cv.cn) (x+(2*hx+i%2:Nat)*p2 m) (y+(2*hy+i / 2:Nat)*p2 m):=fun i hi =>
   zhq m (l.filter (inQ m i)) _ _ (by omega) (fun v hv=>hs v (List.mem_filter.1 hv).1) (zix hb hi) (hp.sublist (List.Sublist.map _ List.filter_sublist))
  show zae (mk ((m:Int)+1) _ _ _ _) x y=_;have i0:=ih 0 (by decide);have i1:=ih 1 (by decide);have i2:=ih 2 (by decide);have i3:=ih 3 (by decide);simp only[Nat.reduceMod,Nat.reduceDiv] at i0 i1 i2 i3;rw[zdC (sub 0) (sub 1) (sub 2) (sub 3),i0,i1,i2,i3,←zmd m l];rw[zap];have e1:∀(h:Nat) (z:Int),z+((2*h+0:Nat):Int)*p2 m=z+(h:Int)*(p2 m+p2 m):=fun h z=>by
   rw[show((2*h+0:Nat):Int)=2*(h:Int) by omega,Int.mul_add,Int.mul_assoc,Int.two_mul]
  have e2:∀(h:Nat) (z:Int),z-p2 m+((2*h+1:Nat):Int)*p2 m=z+(h:Int)*(p2 m+p2 m):=fun h z=>by
   rw[show((2*h+1:Nat):Int)=2*(h:Int)+1 by omega,Int.add_mul,Int.mul_add,Int.mul_assoc,Int.two_mul,Int.one_mul];omega
  simp only[e1,e2]
end Go.Proofs.YtbabbmdpgpcgjaaGreatDoor

namespace Go.Proofs.YtbabbmdpgpcgjaaGreatDoor
open Go.RowKit Nds Num Go.Sort
theorem ztO (bl bv bi:Nat)(A:Option Addr)(c n m i k:Nat)(l:List Cv)(w:World)(hl:w.cell? ⟨bl,0,none⟩=some (.slice A n c))(hv:w.cell? ⟨bv,0,none⟩=some (.int .i64 ((m:Int)+1)))(hi:w.cell? ⟨bi,0,none⟩=some (.int .i64 (i:Int)))
  (h:Cs w A c l) (hn:l.length=n) (hR:∀v∈l,v.xs.length≤60000∧v.ys.length≤60000) (hm:m≤100000) (hk:k<n) :
  Calls Tryz.prog 180 #[.int .i64 (k:Int),.pointer (some ⟨bl,0,none⟩),.pointer (some ⟨bv,0,none⟩),.pointer (some ⟨bi,0,none⟩)] w fun e w'=>e=.returned (.bool (decide (i<quaC (cat l k) m)))∧Gro w w':=by
 have hcap:=h.cap;rw[hn] at hcap;obtain⟨b,off,rfl,hb,hc⟩:=h.at_ (by omega)
 obtain⟨c1,c2,c3,c4,c5⟩:=hc k (by omega);have hu:=h.1 _ (zaZ (i:=k) (by omega));obtain⟨r1,r2⟩:=hR _ (zaZ (i:=k) (by omega));generalize cat l k=v at *;have hv1:=hu.1.cap;have hv2:=hu.2.1.cap;obtain⟨q,hq⟩:∃q,q=quaC v m:=⟨_,rfl⟩;rw[←hq];have HQ:=Hh hq;have HU:=Hh hu;have HLL:=Hh hl;have HVV:=Hh hv;have HII:=Hh hi;have HLT:=Hh (And.intro (zag hl) (And.intro (zag hv) (zag hi)));have HCV:=Hh (show CvAt w b (off+k*5) v from⟨c1,c2,c3,c4,c5⟩);have HLb:=Hh hb;have i1:(0:Int)≤(k:Int):=by omega
 have i2:(k:Int)<(n:Int):=by omega
 have st:Gro w w.drew:=(Gro.refl w).drewN 1;clear h hc hq hu hR;go_enter Tryz.func180,Tryz.ntmps180;go_wp2_with fail;go_region_held3 (fun w'=>w'.cell? ⟨bl,0,none⟩=some (.slice (some ⟨b,off,none⟩) n c)∧w'.cell? ⟨bv,0,none⟩=some (.int .i64 ((m:Int)+1))∧w'.cell? ⟨bi,0,none⟩=some (.int .i64 (i:Int))∧(w'.cell? ⟨b,off+k*5,none⟩=some (.bool v.sx)∧w'.cell? ⟨b,off+k*5+1,none⟩=some (.slice v.ax v.xs.length v.cx)∧w'.cell? ⟨b,off+k*5+2,none⟩=some (.bool v.sy)∧w'.cell? ⟨b,off+k*5+3,none⟩=some (.slice v.ay v.ys.length v.cy)∧w'.cell? ⟨b,off+k*5+4,none⟩=some (.int .u8 v.st)))
  (first|go_keep|exact⟨k0,k1,k2,⟨e1,e2,e3,e4,e5⟩⟩)
  (first|(go_at_call 178;refine(zha v m _ (HU.out.below st.b) r1 r2 hm).mono ?_;rintro e w1 ⟨rfl,g1⟩;rw[←HQ.out];have k0:=((st.trans g1).b.cell (p:=⟨bl,0,none⟩) HLT.out.1).trans HLL.out;have k1:=((st.trans g1).b.cell (p:=⟨bv,0,none⟩) HLT.out.2.1).trans HVV.out;have k2:=((st.trans g1).b.cell (p:=⟨bi,0,none⟩) HLT.out.2.2).trans HII.out;obtain⟨e1,e2,e3,e4,e5⟩:=HCV.out.below ((st.trans g1).b.block b HLb.out)))
 all_goals
  go_wp2_with fail;go_ret;refine⟨?_,st.trans g1⟩;show Ending.returned (.bool _)=.returned (.bool _);congr 2
theorem ziy (w:World)(m:Nat)(os:Array Obj):Below w.heap.size w (grow (w.drewN m) os) :=
 ⟨rfl,rfl,rfl,by rw[size_grow];exact Nat.le_add_right _ _,fun k hk=>by
  show(w.heap++os)[k]?=_;rw[Array.getElem?_append,if_pos hk]⟩
theorem zre (l:List Cv):(List.range l.length).map (cat l)=l:=by
 refine List.ext_getElem (by simp) fun i h1 h2=>?_;rw[List.getElem_map,List.getElem_range,zcr h2]
def endQ (l:List Cv)(m i:Nat):Nat:=l.countP (fun v=>decide (quaC v m≤i))
theorem zoA (bl bv bi:Nat)(A:Option Addr)(c n m i:Nat)(l:List Cv)(w:World)(hl:w.cell? ⟨bl,0,none⟩=some (.slice A n c))(hv:w.cell? ⟨bv,0,none⟩=some (.int .i64 ((m:Int)+1)))(hi:w.cell? ⟨bi,0,none⟩=some (.int .i64 (i:Int)))
  (h:Cs w A c l) (hn:l.length=n) (hR:∀v∈l,v.xs.length≤60000∧v.ys.length≤60000) (hm:m≤100000) (hn9:n≤1000000) (hmono:∀a b,a≤b→b<n→quaC (cat l a) m≤quaC (cat l b) m) :
  Calls Tryz.prog 179 #[.int .i64 (n:Int),.func (.func 180) #[] #[.pointer (some ⟨bl,0,none⟩),.pointer (some ⟨bv,0,none⟩),.pointer (some ⟨bi,0,none⟩)]] w fun e w'=>e=.returned (.int .i64 (endQ l m i:Nat))∧Gro w w':=by
 have eg:∀args w,(callFunc 180 args).run Tryz.prog w=.ok (.enter 180 args) w:=enters_of Tryz.func180 (by kernel_rfl) rfl;have hcon:=Any.sort_Search Tryz.search 180 #[.pointer (some ⟨bl,0,none⟩),.pointer (some ⟨bv,0,none⟩),.pointer (some ⟨bi,0,none⟩)] n (fun k=>decide (i<quaC (cat l k) m)) w eg (by omega)
  (fun q os k hk=>by
   have hb:=ziy w q os;have:=ztO bl bv bi A c n m i k l (grow (w.drewN q) os) ((hb.cell (p:=⟨bl,0,none⟩) (zag hl)).trans hl) ((hb.cell (p:=⟨bv,0,none⟩) (zag hv)).trans hv) ((hb.cell (p:=⟨bi,0,none⟩) (zag hi)).trans hi) (h.below hb) hn hR hm hk;exact this.mono fun e w' ⟨he,hG⟩=>⟨he,zjk hG⟩)
  (fun a b hab hb hp=>decide_eq_true (Nat.lt_of_lt_of_le (of_decide_eq_true hp) (hmono a b hab hb)))
 change Calls Tryz.prog 179 _ _ _ at hcon;refine hcon.mono ?_;rintro e w' ⟨rfl,q,os,rfl⟩;refine⟨?_,ziy w q os,Nat.le_add_right _ _⟩;congr 3;unfold endQ;rw[←hn]
 conv=>rhs;rw[←zre l,List.countP_map]
 congr 1;funext k;simp only[Function.comp];by_cases hk:i<quaC (cat l k) m
 ·rw[decide_eq_true hk,decide_eq_false (by omega)];rfl
 ·rw[decide_eq_false hk,decide_eq_true (by omega)];rfl
end Go.Proofs.YtbabbmdpgpcgjaaGreatDoor

namespace Go.Proofs.YtbabbmdpgpcgjaaGreatDoor
open Nds Num
def Zs (l:List Cv):Prop:=l.Pairwise fun a b=>zq (val a.xs) (val a.ys)≤zq (val b.xs) (val b.ys)
theorem Zs.quarters {m hx hy:Nat}{l:List Cv}(h:Zs l)(hb:HiB (m+1) hx hy l):l.Pairwise fun a b=>quaC a m≤quaC b m:=by
 refine List.Pairwise.imp_of_mem (fun {a b} ha hb' hab=>?_) h;obtain⟨a1,a2⟩:=hb a ha;obtain⟨b1,b2⟩:=hb b hb';exact ztr (a1.trans b1.symm) (a2.trans b2.symm) hab
theorem zhr (f:Cv→Nat)(i:Nat):∀{l:List Cv},l.Pairwise (fun a b=>f a≤f b) →
  l.take (l.countP fun v=>decide (f v≤i))=l.filter (fun v=>decide (f v≤i))∧l.drop (l.countP fun v=>decide (f v≤i))=l.filter (fun v=>decide (i<f v))
 | [],_=>⟨rfl,rfl⟩
 | v :: l,h=>by
  obtain⟨h1,h2⟩:=List.pairwise_cons.1 h;obtain⟨i1,i2⟩:=zhr f i h2;by_cases hv:f v≤i
  ·rw[List.countP_cons_of_pos (by simpa using hv),List.filter_cons,List.filter_cons,if_pos (by simpa using hv),if_neg (by simp;omega),List.take_succ_cons,List.drop_succ_cons,i1,i2];exact⟨rfl,rfl⟩
  ·have h0:l.countP (fun v=>decide (f v≤i))=0:=by
    rw[List.countP_eq_zero];intro u hu;have:=h1 u hu;simp;omega
   have h3:l.filter (fun v=>decide (i<f v))=l:=List.filter_eq_self.2 fun u hu=>by
    have:=h1 u hu;simp;omega
   have h4:l.filter (fun v=>decide (f v≤i))=[]:=List.filter_eq_nil_iff.2 fun u hu=>by
    have:=h1 u hu;simp;omega
   rw[List.countP_cons_of_neg (by simpa using hv),h0,List.filter_cons,List.filter_cons,if_neg (by simpa using hv),if_pos (by simp;omega),h3,h4];exact⟨rfl,rfl⟩
def remQ (l:List Cv)(m j:Nat):List Cv:=l.filter fun v=>decide (j≤quaC v m)
theorem znv (l:List Cv)(m:Nat):remQ l m 0=l:=List.filter_eq_self.2 fun v _=>by simp
theorem zrf {l:List Cv}{m j:Nat}{v:Cv}(h:v∈remQ l m j):v∈l:=(List.mem_filter.1 h).1
theorem ztP {l:List Cv}{m j:Nat}(hs:l.Pairwise fun a b=>quaC a m≤quaC b m){i:Nat}(hne:remQ l m j≠[])(hi:i=quaC (cat (remQ l m j) 0) m) :
  j≤i∧i<4∧(∀k,j≤k→k<i→l.filter (inQ m k)=[])∧(remQ l m j).take (endQ (remQ l m j) m i)=l.filter (inQ m i)∧(remQ l m j).drop (endQ (remQ l m j) m i)=remQ l m (i+1)∧0<endQ (remQ l m j) m i:=by
 have hsr:(remQ l m j).Pairwise fun a b=>quaC a m≤quaC b m:=hs.filter _;obtain⟨v,r,hr⟩:=List.exists_cons_of_ne_nil hne;have hv0:cat (remQ l m j) 0=v:=by rw[hr];rfl
 rw[hv0] at hi;have hvm:v∈remQ l m j:=by rw[hr];simp
 have hji:j≤i:=by
  have:=(List.mem_filter.1 hvm).2;simp only[decide_eq_true_eq] at this;omega
 have hmin:∀u∈remQ l m j,i≤quaC u m:=fun u hu=>by
  rw[hr] at hu hsr;rcases List.mem_cons.1 hu with rfl|hu
  ·omega
  ·have:=List.rel_of_pairwise_cons hsr hu;omega
 obtain⟨t1,t2⟩:=zhr (fun v=>quaC v m) i hsr;refine⟨hji,by rw[hi];exact znl _ _ _,fun k h1 h2=>?_,?_,?_,?_⟩
 ·refine List.filter_eq_nil_iff.2 fun u hu=>?_;unfold inQ;intro e;have e2:quaC u m=k:=by simpa using e
  have:=hmin u (List.mem_filter.2 ⟨hu,by simp;omega⟩);omega
 ·unfold endQ;rw[t1];unfold remQ;rw[List.filter_filter];refine List.filter_congr fun u hu=>?_;unfold inQ;by_cases h1:j≤quaC u m
  ·have h2:=hmin u (List.mem_filter.2 ⟨hu,by simpa using h1⟩);rw[decide_eq_true h1,Bool.and_true];by_cases h3:quaC u m=i
   ·rw[h3];simp
   ·rw[decide_eq_false (by omega)];symm;simpa using h3
  ·rw[decide_eq_false h1,Bool.and_false];symm;simp;omega
 ·unfold endQ;rw[t2];unfold remQ;rw[List.filter_filter];refine List.filter_congr fun u hu=>?_;by_cases h1:i<quaC u m
  ·rw[decide_eq_true h1,decide_eq_true (show j≤quaC u m by omega),decide_eq_true (show i+1≤quaC u m by omega)];rfl
  ·rw[decide_eq_false h1,decide_eq_false (show ¬ i+1≤quaC u m by omega)];rfl
 ·unfold endQ;exact List.countP_pos_iff.2 ⟨v,hvm,by simp;omega⟩
def fQ (m:Nat)(l:List Cv)(k:Nat):Tr:=zaF m (l.filter (inQ m k))
theorem zxR {m:Nat}{l:List Cv}(hm:m≤1329)(hs:∀v∈l,1≤v.st∧v.st≤255)(k:Nat):wfT (m:Int) (fQ m l k):=zfe m _ hm (fun v hv=>hs v (List.mem_filter.1 hv).1)
theorem zrg {m:Nat}{l:List Cv}{out:List Nd}{j:Nat}:∀{i:Nat},j≤i→(∀k,j≤k→k<i→l.filter (inQ m k)=[])→outK (fQ m l) out i=outK (fQ m l) out j
 | 0,hji,_=>by rw[show j=0 by omega]
 | i+1,hji,h=>by
  rcases Nat.lt_or_ge i j with h1|h1
  ·rw[show j=i+1 by omega]
  ·show(enc (fQ m l i) (outK (fQ m l) out i)).1=_;rw[show fQ m l i=.e by unfold fQ;rw[h i h1 (by omega),zdJ]];exact zrg h1 (fun k h2 h3=>h k h2 (by omega))
theorem zxS {m:Nat}{l:List Cv}{out:List Nd}{k:Nat}(h:l.filter (inQ m k)=[]):numK (fQ m l) out k=0:=by
 unfold numK;rw[show fQ m l k=.e by unfold fQ;rw[h,zdJ]];rfl
theorem zvr {m:Nat}{l:List Cv}{out:List Nd}{v:Int}{j i:Nat}(hji:j≤i)(hi:i≤4)(h:∀k,j≤k→k<i→l.filter (inQ m k)=[]):mix ⟨v,0,0,0,0⟩ (topN (fQ m l) out v) i=mix ⟨v,0,0,0,0⟩ (topN (fQ m l) out v) j:=by
 have key:∀k,k<4→(if k<i then numK (fQ m l) out k else 0)=(if k<j then numK (fQ m l) out k else 0):=fun k hk=>by
  by_cases h1:k<j
  ·rw[if_pos h1,if_pos (by omega)]
  ·by_cases h2:k<i
   ·rw[if_neg h1,if_pos h2,zxS (h k (by omega) h2)]
   ·rw[if_neg h1,if_neg h2]
 unfold mix topN;dsimp only;rw[key 0 (by decide),key 1 (by decide),key 2 (by decide),key 3 (by decide)]
theorem ziz {m:Nat}{l:List Cv}(hne:l≠[]):zaF (m+1) l=.n ((m:Int)+1) (fQ m l 0) (fQ m l 1) (fQ m l 2) (fQ m l 3):=zxB (znu (m+1) hne)
theorem fQ_q (m:Nat)(l:List Cv):∀i,i<4→(Tr.n ((m:Int)+1) (fQ m l 0) (fQ m l 1) (fQ m l 2) (fQ m l 3)).q i=fQ m l i:=fun i hi=>by
 match i,hi with
 | 0,_=>rfl
 | 1,_=>rfl
 | 2,_=>rfl
 | 3,_=>rfl
theorem ztQ {m:Nat}{l:List Cv}(hne:l≠[])(out:List Nd):enc (zaF (m+1) l) out=((add (outK (fQ m l) out 4) (topN (fQ m l) out ((m:Int)+1))).1,((add (outK (fQ m l) out 4) (topN (fQ m l) out ((m:Int)+1))).2:Int)):=by
 rw[ziz hne,zog,zea 4 (fun i hi=>fQ_q m l i hi),zik (fun i hi=>fQ_q m l i hi)]
theorem zxT {m:Nat}{l:List Cv}{out:List Nd}(hm:m≤1329)(hs:∀v∈l,1≤v.st∧v.st≤255)(hg:zas out):∀k,k≤4→EncK (m:Int) (fQ m l) out k :=
 zgW hg fun i _ o ho=>zce _ _ o (zxR hm hs i) ho
theorem zwo {m:Nat}{l:List Cv}{out:List Nd}(hm:m+1≤1329)(hne:l≠[])(hs:∀v∈l,1≤v.st∧v.st≤255)(hg:zas out)(hlen:(outK (fQ m l) out 4).length≤1000000):(topN (fQ m l) out ((m:Int)+1)).wf:=by
 have hw:=zfe (m+1) l hm hs;rw[ziz hne,show(((m+1:Nat)):Int)=(m:Int)+1 by omega] at hw;have hk:EncK ((m:Int)+1-1) (Tr.n ((m:Int)+1) (fQ m l 0) (fQ m l 1) (fQ m l 2) (fQ m l 3)).q out 4:=by
  rw[show(m:Int)+1-1=(m:Int) by omega];refine zgW hg (fun i hi o ho=>?_) 4 (Nat.le_refl _);rw[fQ_q m l i hi];exact zce _ _ o (zxR (by omega) hs i) ho
 have h:=(zvj hw hk).1;rw[zea 4 (fun i hi=>fQ_q m l i hi),zik (fun i hi=>fQ_q m l i hi)] at h;exact zxG h hlen
theorem zwp (out:List Nd)(x:Nd):(add out x).1.length≤out.length+1:=by
 unfold add;split
 ·simp
 ·exact Nat.le_succ _
theorem zkH (m:Nat)(l:List Cv):(l.filter (inQ m 0)).length+(l.filter (inQ m 1)).length+(l.filter (inQ m 2)).length+(l.filter (inQ m 3)).length=l.length:=by
 induction l with
 | nil=>rfl
 | cons v l ih =>
  have h:=znl m (val v.xs) (val v.ys);have e:quaC v m=qtr m (val v.xs) (val v.ys):=rfl;rw[List.filter_cons,List.filter_cons,List.filter_cons,List.filter_cons];unfold inQ;rw[←e] at h;generalize quaC v m=q at h;unfold inQ at ih;obtain rfl|rfl|rfl|rfl:q=0∨q=1∨q=2∨q=3:=by omega
  all_goals
   simp;omega
theorem zfC:∀(m:Nat) (l:List Cv) (out:List Nd),(enc (zaF m l) out).1.length≤out.length+m*l.length
 | 0,[],out=>Nat.le_add_right _ _
 | 0,v :: l,out=>Nat.le_add_right _ _
 | m+1,l,out=>by
  by_cases hne:l=[]
  ·subst hne;rw[zdJ];exact Nat.le_add_right _ _
  ·have h0:=zfC m (l.filter (inQ m 0)) out;have h1:=zfC m (l.filter (inQ m 1)) (outK (fQ m l) out 1);have h2:=zfC m (l.filter (inQ m 2)) (outK (fQ m l) out 2);have h3:=zfC m (l.filter (inQ m 3)) (outK (fQ m l) out 3);have ha:=zwp (outK (fQ m l) out 4) (topN (fQ m l) out ((m:Int)+1));rw[ztQ hne];have hq:=zkH m l;have hp:0<l.length:=List.length_pos_iff.2 hne;have hmul:m*(l.filter (inQ m 0)).length+m*(l.filter (inQ m 1)).length+m*(l.filter (inQ m 2)).length+m*(l.filter (inQ m 3)).length=m*l.length:=by
    rw[←Nat.mul_add,←Nat.mul_add,←Nat.mul_add,hq]
   have e1:(outK (fQ m l) out 1).length=(enc (zaF m (l.filter (inQ m 0))) out).1.length:=rfl;have e2:(outK (fQ m l) out 2).length=(enc (zaF m (l.filter (inQ m 1))) (outK (fQ m l) out 1)).1.length:=rfl;have e3:(outK (fQ m l) out 3).length=(enc (zaF m (l.filter (inQ m 2))) (outK (fQ m l) out 2)).1.length:=rfl;have e4:(outK (fQ m l) out 4).length=(enc (zaF m (l.filter (inQ m 3))) (outK (fQ m l) out 3)).1.length:=rfl;rw[Nat.add_mul,Nat.one_mul];show(add (outK (fQ m l) out 4) (topN (fQ m l) out ((m:Int)+1))).1.length≤_;omega
end Go.Proofs.YtbabbmdpgpcgjaaGreatDoor
