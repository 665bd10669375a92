/-
  box, the reference: Of.
  box, the reference: Of of nothing; Within.
-/
import Derived.Test.YtajgfmfopkggdaaGreatGBxH
import Derived.Test.YtajgfmfopkggdaaGreatGLkRq
import Derived.Test.YtajgfmfopkggdaaGreatLay0

set_option linter.unusedVariables false
set_option linter.unusedSimpArgs false
set_option maxRecDepth 100000
namespace Go.Proofs.YtajgfmfopkggdaaGreat
open Go.RowKit Num Nds
theorem redge_last {l : List Nd} {ax e n : Nat} {w w' : World} {en : Ending} (h : RetEg l ax e n w en w') (h0 : 0 < n) :
  ∃ (gr : Nat) (u : Bw) (D : Int), en = .returned (.slice (some ⟨gr, 0, none⟩) (n + 1) (n + 1)) ∧ w'.cell? ⟨gr, n * 2, none⟩ = some (.bool u.s) ∧ w'.cell? ⟨gr, n * 2 + 1, none⟩ = some (.slice u.a u.xs.length u.c) ∧ u.R w' D ∧ EdS ax e (at_ l (n - 1)).lv.toNat (fun u => u = den l n) D ∧ Below w.heap.size w w' := by
 obtain ⟨gr, L, F, rfl, h1⟩ := h
 obtain ⟨c0, c1⟩ := h1.row.row.2.2.1 n (by omega)
 obtain ⟨hg, he⟩ := h1.fine (n - 1) (by omega)
 rw [Nat.sub_add_cancel (by omega)] at hg
 unfold IsE at he
 rw [Nat.sub_add_cancel (by omega)] at he
 exact ⟨gr, ⟨(gat L n).s, (gat L n).a, (gat L n).c, (gat L n).xs⟩, F (n - 1), rfl, c0, c1, ⟨hg.us, hg.cn, hg.v⟩, he, h1.b⟩
theorem redges_at {ax e : Nat} (k0 k1 k2 k3 : Int) (n c : Nat) (A : Option Addr) (l : List Nd) (w : World) (h : Ns w A c l) (hn : l.length = n) (h0 : 0 < n) (hn9 : n ≤ 900000) (hg : GoodL l) (he : e ≤ 1) (hk : k0 = (kk ax e 0 : Nat) ∧ k1 = (kk ax e 1 : Nat) ∧ k2 = (kk ax e 2 : Nat) ∧ k3 = (kk ax e 3 : Nat)) :
  Calls Tryz.prog 90 #[.slice A n c, .agg #[.int .i64 k0, .int .i64 k1], .agg #[.int .i64 k2, .int .i64 k3]] w fun en w' =>
   ∃ (gr : Nat) (u : Bw) (D : Int), en = .returned (.slice (some ⟨gr, 0, none⟩) (n + 1) (n + 1)) ∧ w'.cell? ⟨gr, n * 2, none⟩ = some (.bool u.s) ∧ w'.cell? ⟨gr, n * 2 + 1, none⟩ = some (.slice u.a u.xs.length u.c) ∧ u.R w' D ∧ EdS ax e (at_ l (n - 1)).lv.toNat (fun u => u = den l n) D ∧ Below w.heap.size w w' := by
 obtain ⟨rfl, rfl, rfl, rfl⟩ := hk
 exact (redges_any ax e n c A l w h hn hn9 hg he).mono fun en w' hr => redge_last hr h0
structure OgJ (w W : World) (A : Option Addr) (c n : Nat) (l : List Nd) (K : List (Nat × Bw × Int)) : Prop where
 ag : Ag w W [(A, c, l)] [(w.heap.size, .slice A n c)] K
 r : W.heap[w.heap.size + 1]? = some xb0.obj
theorem OgJ.step {w W W' : World} {A : Option Addr} {c n : Nat} {l : List Nd} {K : List (Nat × Bw × Int)} (h : OgJ w W A c n l K) (k : Below W.heap.size W W') : OgJ w W' A c n l K := ⟨h.ag.step k, (k.block _ (heapLt h.r)).trans h.r⟩
theorem OgJ.add {w W : World} {A : Option Addr} {c n : Nat} {l : List Nd} {K : List (Nat × Bw × Int)} (h : OgJ w W A c n l K) {u : Bw} {X : Int} (k : u.R W X) : OgJ w (W.alloc (.cells #[.bool u.s, .slice u.a u.xs.length u.c] 31)) A c n l ((W.heap.size, u, X) :: K) :=
 ⟨h.ag.addK k, (Below.heap_alloc W _ _ (heapLt h.r)).trans h.r⟩
theorem OgJ.q {w W : World} {A : Option Addr} {c n : Nat} {l : List Nd} {K : List (Nat × Bw × Int)} (h : OgJ w W A c n l K) : W.cell? ⟨w.heap.size, 0, none⟩ = some (.slice A n c) := h.ag.getB (by simp)
theorem OgJ.ns {w W : World} {A : Option Addr} {c n : Nat} {l : List Nd} {K : List (Nat × Bw × Int)} (h : OgJ w W A c n l K) : Ns W A c l := h.ag.getN (by simp)
set_option maxHeartbeats 6400000 in
theorem rbox_some (n c : Nat) (A : Option Addr) (l : List Nd) (w : World) (h : Ns w A c l) (hn : l.length = n) (h0 : 0 < n) (hn9 : n ≤ 900000) (hg : GoodL l) :
  Calls Tryz.prog 50 #[.agg #[.slice A n c]] w (RetBx l n w) := by
 have hcap := h.cap
 rw [hn] at hcap
 have hlv := fit_lv (loose_fit hg.1 (i := n - 1) (by omega))
 have hlz : levelZ l = (at_ l (n - 1)).lv := by
  unfold levelZ
  rw [if_neg (fun e => by rw [e] at hn; simp at hn; omega), hn]
 obtain ⟨top, htop⟩ : ∃ top : Nat, (at_ l (n - 1)).lv = (top : Int) := ⟨(at_ l (n - 1)).lv.toNat, by omega⟩
 rw [htop] at hlv hlz
 have j0 : OgJ w ((w.alloc (.cells #[.slice A n c] 26)).alloc xb0.obj) A c n l [] := by
  refine ⟨(((Ag.start w).addN h).addB (.slice A n c)).alloc xb0.obj, ?_⟩
  have hr := heap_alloc_new (w.alloc (.cells #[.slice A n c] 26)) xb0.obj
  rwa [World.size_alloc] at hr
 have J0 := Lib.hid j0
 have g0 := j0.q
 have HNL := Lib.hid hn
 have HG := Lib.hid hg
 have HT := Lib.hid htop
 have HLZ := Lib.hid hlz
 have t1 : ((n : Int) == 0) = false := beq_eq_false_iff_ne.2 (by omega)
 have i1 : (0 : Int) ≤ (n : Int) := by omega
 have i2 : (n : Int) < (n : Int) + 1 := by omega
 have i3 : IntKind.i64.wrap ((top : Int) - 1) = ((top - 1 : Nat) : Int) := by rw [show (top : Int) - 1 = ((top - 1 : Nat) : Int) by omega]; exact IntWalk.i64_in _ (by omega)
 have HP0 := Lib.hid (show shlI 1 (top : Int) = p2 top from pow_p2 _ (by omega))
 have HP1 := Lib.hid (show shlI 1 ((top - 1 : Nat) : Int) = p2 (top - 1) from pow_p2 _ (by omega))
 have q0 : True := trivial
 clear h hn hg htop hlz j0
 dsimp only [xb0, bw0, Xb.obj, List.length_nil] at J0 g0
 go_enter Tryz.func50, Tryz.ntmps50
 go_upto_region 10 with (first
  | (have _t := q0; go_at_call 90; clear _t; go_loud (refine (redges_at (ax := 0) (e := 0) 0 2 1 3 n c A l _ J0.out.ns HNL.out h0 hn9 HG.out (by omega) (by decide)).mono ?_; rintro en w1 ⟨gr, uw, Dw, rfl, r0, r1, ru, re, b1⟩; have Ew := Lib.hid re; have hz1 := heapLt (J0.out.step b1).r; have J1 := Lib.hid ((J0.out.step b1).add ru); have g0 := J1.out.q; have hcu := ru.us.cap; clear ru re b1; have q1 := q0; clear q0))
  | (have _t := q1; go_at_call 90; clear _t; go_loud (refine (redges_at (ax := 0) (e := 1) 1 3 0 2 n c A l _ J1.out.ns HNL.out h0 hn9 HG.out (by omega) (by decide)).mono ?_; rintro en w2 ⟨gr, ue, De, rfl, r0, r1, ru, re, b1⟩; have Ee := Lib.hid re; have hz2 := heapLt (J1.out.step b1).r; have J2 := Lib.hid ((J1.out.step b1).add ru); have g0 := J2.out.q; have hcu := ru.us.cap; clear ru re b1; have q2 := q1; clear q1))
  | (have _t := q2; go_at_call 90; clear _t; go_loud (refine (redges_at (ax := 1) (e := 0) 0 1 2 3 n c A l _ J2.out.ns HNL.out h0 hn9 HG.out (by omega) (by decide)).mono ?_; rintro en w3 ⟨gr, un, Dn, rfl, r0, r1, ru, re, b1⟩; have En := Lib.hid re; have hz3 := heapLt (J2.out.step b1).r; have J3 := Lib.hid ((J2.out.step b1).add ru); have g0 := J3.out.q; have hcu := ru.us.cap; clear ru re b1; have q3 := q2; clear q2))
  | (have _t := q3; go_at_call 90; clear _t; go_loud (refine (redges_at (ax := 1) (e := 1) 2 3 0 1 n c A l _ J3.out.ns HNL.out h0 hn9 HG.out (by omega) (by decide)).mono ?_; rintro en w4 ⟨gr, us, Ds, rfl, r0, r1, ru, re, b1⟩; have Es := Lib.hid re; have hz4 := heapLt (J3.out.step b1).r; have J4 := Lib.hid ((J3.out.step b1).add ru); have g0 := J4.out.q; have hcu := ru.us.cap; clear ru re b1; have q4 := q3; clear q3))
  | (have _t := q4; go_at_call 62; clear _t; go_loud (refine (rlevel_any A c n l _ J4.out.ns HNL.out).mono ?_; rintro en w5 ⟨rfl, b5⟩; rw [HLZ.out]; have J5 := Lib.hid (J4.out.step b5); clear b5; have q5 := q4; clear q4))
  | (have _t := q5; go_at_call 64; clear _t; go_loud (refine (rbpow_any _ _).mono ?_; rintro en w6 h6; rw [HP0.out] at h6; obtain ⟨uz, rfl, ru, b6⟩ := retI_bw h6; have J6 := Lib.hid (J5.out.step b6); have RS := Lib.hid ru; clear h6 ru b6; have q6 := q5; clear q5))
  | (have _t := q6; go_at_call 64; clear _t; go_loud (refine (rbpow_any _ _).mono ?_; rintro en w7 h7; rw [HP1.out] at h7; obtain ⟨uh, rfl, ru, b7⟩ := retI_bw h7; have J7 := Lib.hid (J6.out.step b7); have RS := Lib.hid (RS.out.next b7); have RH := Lib.hid ru; clear h7 ru b7; have q7 := q6; clear q6))
  | (have _t := q7; go_at_call 78; clear _t; go_loud (refine (rminus_any uh.s uh.a uh.c uh.xs _ RH.out.us (Nat.le_trans (bw_len RH.out (by have := p2_pos (top - 1); have := p2_pos 1330; omega) (p2_mono (by omega))) (by omega))).mono ?_; rintro en w8 h8; obtain ⟨uc, rfl, ru, b8⟩ := retI_bw h8; rw [RH.out.v] at ru; have RS := Lib.hid (RS.out.next b8); have RC := Lib.hid (ru.next ((Below.refl _ w8).alloc (Nat.le_refl _) uz.obj)); have hz8 := heapLt (J7.out.step b8).r; have J8 := Lib.hid (((J7.out.step b8).add RS.out).add RC.out); clear h8 ru b8; have q8 := q7; clear q7)))
 rw [World.size_alloc] at J8
 obtain ⟨g5, hg5⟩ : ∃ g, g = w1.heap.size := ⟨_, rfl⟩
 obtain ⟨g6, hg6⟩ : ∃ g, g = w2.heap.size := ⟨_, rfl⟩
 obtain ⟨g7, hg7⟩ : ∃ g, g = w3.heap.size := ⟨_, rfl⟩
 obtain ⟨g8, hg8⟩ : ∃ g, g = w4.heap.size := ⟨_, rfl⟩
 obtain ⟨gc, hgc⟩ : ∃ g, g = w8.heap.size + 1 := ⟨_, rfl⟩
 rw [← hgc] at J8 ⊢
 obtain ⟨gz, hgz⟩ : ∃ g, g = w8.heap.size := ⟨_, rfl⟩
 rw [← hg5, ← hg6, ← hg7, ← hg8, ← hgz] at J8 ⊢
 obtain ⟨KL, hKL⟩ : ∃ K : List (Nat × Bw × Int), K = [(gc, uc, -p2 (top - 1)), (gz, uz, p2 top), (g8, us, Ds), (g7, un, Dn), (g6, ue, De), (g5, uw, Dw)] := ⟨_, rfl⟩
 rw [← hKL] at J8
 have mc : (gc, uc, -p2 (top - 1)) ∈ KL := by rw [hKL]; exact List.mem_cons_self
 have mz : (gz, uz, p2 top) ∈ KL := by rw [hKL]; exact List.mem_cons_of_mem _ List.mem_cons_self
 have m8 : (g8, us, Ds) ∈ KL := by rw [hKL]; exact List.mem_cons_of_mem _ (List.mem_cons_of_mem _ List.mem_cons_self)
 have m7 : (g7, un, Dn) ∈ KL := by rw [hKL]; exact List.mem_cons_of_mem _ (List.mem_cons_of_mem _ (List.mem_cons_of_mem _ List.mem_cons_self))
 have m6 : (g6, ue, De) ∈ KL := by rw [hKL]; exact List.mem_cons_of_mem _ (List.mem_cons_of_mem _ (List.mem_cons_of_mem _ (List.mem_cons_of_mem _ List.mem_cons_self)))
 have m5 : (g5, uw, Dw) ∈ KL := by rw [hKL]; exact List.mem_cons_of_mem _ (List.mem_cons_of_mem _ (List.mem_cons_of_mem _ (List.mem_cons_of_mem _ (List.mem_cons_of_mem _ List.mem_cons_self))))
 clear hKL
 obtain ⟨W8, hW8⟩ : ∃ W : World, W = ((w8.alloc (.cells #[.bool uz.s, .slice uz.a uz.xs.length uz.c] 31)).alloc (.cells #[.bool uc.s, .slice uc.a uc.xs.length uc.c] 31)).drew := ⟨_, rfl⟩
 have JA := Lib.hid (J8.out.step (below_drewN (Below.refl _ _) 1))
 change Hid (OgJ w ((w8.alloc (.cells #[.bool uz.s, .slice uz.a uz.xs.length uz.c] 31)).alloc (.cells #[.bool uc.s, .slice uc.a uc.xs.length uc.c] 31)).drew A c n l _) at JA
 rw [← hW8] at JA
 have hw9 := Lib.hid (show ∀ (ax e : Nat) (D : Int), EdS ax e (at_ l (n - 1)).lv.toNat (fun u => u = den l n) D → 0 ≤ D ∧ D < p2 top from fun ax e D h => by
  have hw := wf_den HG.out.1 (n - 1) (by have := HNL.out; omega)
  rw [Nat.sub_add_cancel (by omega), HT.out] at hw
  rw [HT.out, Int.toNat_natCast] at h
  exact h.in_ (fun t ht => by have ht' : t = den l n := ht; rw [ht']; exact hw))
 have m0 := p2_mono (show top ≤ 1329 by omega)
 have m1 := p2_mono (show top - 1 ≤ 1329 by omega)
 have m2 : p2 1330 = p2 1329 + p2 1329 := p2_succ 1329
 have m3 := p2_pos (top - 1)
 have m4 := p2_pos top
 have hDw := hw9.out _ _ _ Ew.out
 have hDe := hw9.out _ _ _ Ee.out
 have hDn := hw9.out _ _ _ En.out
 have hDs := hw9.out _ _ _ Es.out
 have LB := Lib.hid (show ∀ (u : Bw) (W : World) (X : Int), u.R W X → -p2 1330 ≤ X → X ≤ p2 1330 → u.xs.length ≤ 50000 from fun u W X r h1 h2 => Nat.le_trans (bw_len r h1 h2) (by omega))
 have lc := LB.out _ _ _ (JA.out.ag.getK mc).r (by omega) (by omega)
 have lz := LB.out _ _ _ (JA.out.ag.getK mz).r (by omega) (by omega)
 have lW := LB.out _ _ _ (JA.out.ag.getK m5).r (by omega) (by omega)
 have lE := LB.out _ _ _ (JA.out.ag.getK m6).r (by omega) (by omega)
 have lN := LB.out _ _ _ (JA.out.ag.getK m7).r (by omega) (by omega)
 have lS := LB.out _ _ _ (JA.out.ag.getK m8).r (by omega) (by omega)
 have HM := Lib.hid (And.intro m0 (And.intro m1 (And.intro m2 (And.intro m3 (And.intro m4 (And.intro hDw (And.intro hDe (And.intro hDn hDs))))))))
 have HGS := Lib.hid (show w.heap.size + 1 < gc ∧ w.heap.size + 1 < gz ∧ w.heap.size + 1 < g5 ∧ w.heap.size + 1 < g6 ∧ w.heap.size + 1 < g7 ∧ w.heap.size + 1 < g8 by
  rw [← hg5] at hz1
  rw [← hg6] at hz2
  rw [← hg7] at hz3
  rw [← hg8] at hz4
  rw [← hgz] at hz8 hgc
  exact ⟨by rw [hgc]; exact Nat.lt_succ_of_lt hz8, hz8, hz1, hz2, hz3, hz4⟩)
 clear m0 m1 m2 m3 m4 hDw hDe hDn hDs hg5 hg6 hg7 hg8 hgc hgz hz1 hz2 hz3 hz4 hz8 J0 J1 J2 J3 J4 J5 J6 J7 J8 RS RH RC
 refine wp_region_noPanic ?_
 refine wp_region_held (S := fun w' => w'.cell? ⟨gc, 0, none⟩ = some (.bool uc.s) ∧ w'.cell? ⟨gc, 1, none⟩ = some (.slice uc.a uc.xs.length uc.c) ∧ w'.cell? ⟨g5, 0, none⟩ = some (.bool uw.s) ∧ w'.cell? ⟨g5, 1, none⟩ = some (.slice uw.a uw.xs.length uw.c) ∧ w'.cell? ⟨g7, 0, none⟩ = some (.bool un.s) ∧ w'.cell? ⟨g7, 1, none⟩ = some (.slice un.a un.xs.length un.c) ∧ w'.cell? ⟨gz, 0, none⟩ = some (.bool uz.s) ∧ w'.cell? ⟨gz, 1, none⟩ = some (.slice uz.a uz.xs.length uz.c) ∧ w'.cell? ⟨g6, 0, none⟩ = some (.bool ue.s) ∧ w'.cell? ⟨g6, 1, none⟩ = some (.slice ue.a ue.xs.length ue.c) ∧ w'.cell? ⟨g8, 0, none⟩ = some (.bool us.s) ∧ w'.cell? ⟨g8, 1, none⟩ = some (.slice us.a us.xs.length us.c)) (by kernel_rfl) ?_
 change wpAnyH _ _ _ _ _ _ _ _ ((w8.alloc (.cells #[.bool uz.s, .slice uz.a uz.xs.length uz.c] 31)).alloc (.cells #[.bool uc.s, .slice uc.a uc.xs.length uc.c] 31)).drew
 rw [← hW8]
 clear hW8
 clear hcap HLZ HP0 HP1
 have hS0 := (And.intro (JA.out.ag.getK mc).c0 (And.intro (JA.out.ag.getK mc).c1 (And.intro (JA.out.ag.getK m5).c0 (And.intro (JA.out.ag.getK m5).c1 (And.intro (JA.out.ag.getK m7).c0 (And.intro (JA.out.ag.getK m7).c1 (And.intro (JA.out.ag.getK mz).c0 (And.intro (JA.out.ag.getK mz).c1 (And.intro (JA.out.ag.getK m6).c0 (And.intro (JA.out.ag.getK m6).c1 (And.intro (JA.out.ag.getK m8).c0 (JA.out.ag.getK m8).c1)))))))))))
 refine wpAnyH_take (i := 0) (v := ?_) rfl (by kernel_rfl) (by kernel_rfl) (by kernel_rfl) (fun _ _ _ h => h) (Or.inl ⟨by rfl, ?_⟩) hS0 ?_
 rotate_left
 ·
  rintro w' ⟨s0_, s1_, s2_, s3_, s4_, s5_, s6_, s7_, s8_, s9_, s10_, s11_⟩
  go_simp
  first | done | with_reducible rfl | rfl
 simp only [Act.put, LA]
 refine wpAnyH_take (i := 1) (v := ?_) rfl (by kernel_rfl) (by kernel_rfl) (by kernel_rfl) (fun _ _ _ h => h) (Or.inl ⟨by rfl, ?_⟩) hS0 ?_
 rotate_left
 ·
  rintro w' ⟨s0_, s1_, s2_, s3_, s4_, s5_, s6_, s7_, s8_, s9_, s10_, s11_⟩
  go_simp
  first | done | with_reducible rfl | rfl
 simp only [Act.put, LA]
 refine wpAnyH_take (i := 3) (v := ?_) rfl (by kernel_rfl) (by kernel_rfl) (by kernel_rfl) (fun _ _ _ h => h) (Or.inl ⟨by rfl, ?_⟩) hS0 ?_
 rotate_left
 ·
  rintro w' ⟨s0_, s1_, s2_, s3_, s4_, s5_, s6_, s7_, s8_, s9_, s10_, s11_⟩
  go_simp
  first | done | with_reducible rfl | rfl
 simp only [Act.put, LA]
 refine wpAnyH_take (i := 4) (v := ?_) rfl (by kernel_rfl) (by kernel_rfl) (by kernel_rfl) (fun _ _ _ h => h) (Or.inl ⟨by rfl, ?_⟩) hS0 ?_
 rotate_left
 ·
  rintro w' ⟨s0_, s1_, s2_, s3_, s4_, s5_, s6_, s7_, s8_, s9_, s10_, s11_⟩
  go_simp
  first | done | with_reducible rfl | rfl
 simp only [Act.put, LA]
 refine wpAnyH_take (i := 6) (v := ?_) rfl (by kernel_rfl) (by kernel_rfl) (by kernel_rfl) (fun _ _ _ h => h) (Or.inl ⟨by rfl, ?_⟩) hS0 ?_
 rotate_left
 ·
  rintro w' ⟨s0_, s1_, s2_, s3_, s4_, s5_, s6_, s7_, s8_, s9_, s10_, s11_⟩
  go_simp
  first | done | with_reducible rfl | rfl
 simp only [Act.put, LA]
 refine wpAnyH_take (i := 7) (v := ?_) rfl (by kernel_rfl) (by kernel_rfl) (by kernel_rfl) (fun _ _ _ h => h) (Or.inl ⟨by rfl, ?_⟩) hS0 ?_
 rotate_left
 ·
  rintro w' ⟨s0_, s1_, s2_, s3_, s4_, s5_, s6_, s7_, s8_, s9_, s10_, s11_⟩
  go_simp
  first | done | with_reducible rfl | rfl
 simp only [Act.put, LA]
 refine wpAnyH_take (i := 8) (v := ?_) rfl (by kernel_rfl) (by kernel_rfl) (by kernel_rfl) (fun _ _ _ h => h) (Or.inl ⟨by rfl, ?_⟩) hS0 ?_
 rotate_left
 ·
  rintro w' ⟨s0_, s1_, s2_, s3_, s4_, s5_, s6_, s7_, s8_, s9_, s10_, s11_⟩
  go_simp
  first | done | with_reducible rfl | rfl
 simp only [Act.put, LA]
 refine wpAnyH_take (i := 11) (v := ?_) rfl (by kernel_rfl) (by kernel_rfl) (by kernel_rfl) (fun _ _ _ h => h) (Or.inl ⟨by rfl, ?_⟩) hS0 ?_
 rotate_left
 ·
  rintro w' ⟨s0_, s1_, s2_, s3_, s4_, s5_, s6_, s7_, s8_, s9_, s10_, s11_⟩
  go_simp
  first | done | with_reducible rfl | rfl
 simp only [Act.put, LA]
 refine wpAnyH_take (i := 12) (v := ?_) rfl (by kernel_rfl) (by kernel_rfl) (by kernel_rfl) (fun _ _ _ h => h) (Or.inl ⟨by rfl, ?_⟩) hS0 ?_
 rotate_left
 ·
  rintro w' ⟨s0_, s1_, s2_, s3_, s4_, s5_, s6_, s7_, s8_, s9_, s10_, s11_⟩
  go_simp
  first | done | with_reducible rfl | rfl
 simp only [Act.put, LA]
 refine wpAnyH_take (i := 13) (v := ?_) rfl (by kernel_rfl) (by kernel_rfl) (by kernel_rfl) (fun _ _ _ h => h) (Or.inl ⟨by rfl, ?_⟩) hS0 ?_
 rotate_left
 ·
  rintro w' ⟨s0_, s1_, s2_, s3_, s4_, s5_, s6_, s7_, s8_, s9_, s10_, s11_⟩
  go_simp
  first | done | with_reducible rfl | rfl
 simp only [Act.put, LA]
 refine wpAnyH_ready (rs := [2]) (by kernel_rfl) (by simp) (AllReadyH.cons rfl (fun K hK => ?_) AllReadyH.nil)
 go_simp
 refine (rbadd_any uc.s uw.s uc.a uw.a uc.c uw.c uc.xs uw.xs _ (JA.out.ag.getK mc).r.us (JA.out.ag.getK m5).r.us (by omega) (by omega)).mono ?_
 rintro en w_ux h_
 obtain ⟨ux, rfl, r_, b_⟩ := retI_bw h_
 rw [(JA.out.ag.getK mc).r.v, (JA.out.ag.getK m5).r.v] at r_
 dsimp only
 have JB := Lib.hid (JA.out.step b_)
 have Rux := Lib.hid r_
 have hSJB := (And.intro (JB.out.ag.getK mc).c0 (And.intro (JB.out.ag.getK mc).c1 (And.intro (JB.out.ag.getK m5).c0 (And.intro (JB.out.ag.getK m5).c1 (And.intro (JB.out.ag.getK m7).c0 (And.intro (JB.out.ag.getK m7).c1 (And.intro (JB.out.ag.getK mz).c0 (And.intro (JB.out.ag.getK mz).c1 (And.intro (JB.out.ag.getK m6).c0 (And.intro (JB.out.ag.getK m6).c1 (And.intro (JB.out.ag.getK m8).c0 (JB.out.ag.getK m8).c1)))))))))))
 refine hK.out _ _ hSJB (fun _ => ?_)
 clear hK K h_ r_ b_
 refine wpAnyH_ready (rs := [5]) (by kernel_rfl) (by simp) (AllReadyH.cons rfl (fun K hK => ?_) AllReadyH.nil)
 go_simp
 refine (rbadd_any uc.s un.s uc.a un.a uc.c un.c uc.xs un.xs _ (JB.out.ag.getK mc).r.us (JB.out.ag.getK m7).r.us (by omega) (by omega)).mono ?_
 rintro en w_uy h_
 obtain ⟨uy, rfl, r_, b_⟩ := retI_bw h_
 rw [(JB.out.ag.getK mc).r.v, (JB.out.ag.getK m7).r.v] at r_
 dsimp only
 have JC := Lib.hid (JB.out.step b_)
 have Rux := Lib.hid (Rux.out.next b_)
 have Ruy := Lib.hid r_
 have hSJC := (And.intro (JC.out.ag.getK mc).c0 (And.intro (JC.out.ag.getK mc).c1 (And.intro (JC.out.ag.getK m5).c0 (And.intro (JC.out.ag.getK m5).c1 (And.intro (JC.out.ag.getK m7).c0 (And.intro (JC.out.ag.getK m7).c1 (And.intro (JC.out.ag.getK mz).c0 (And.intro (JC.out.ag.getK mz).c1 (And.intro (JC.out.ag.getK m6).c0 (And.intro (JC.out.ag.getK m6).c1 (And.intro (JC.out.ag.getK m8).c0 (JC.out.ag.getK m8).c1)))))))))))
 refine hK.out _ _ hSJC (fun _ => ?_)
 clear hK K h_ r_ b_
 refine wpAnyH_ready (rs := [9]) (by kernel_rfl) (by simp) (AllReadyH.cons rfl (fun K hK => ?_) AllReadyH.nil)
 go_simp
 refine (rbadd_any uw.s ue.s uw.a ue.a uw.c ue.c uw.xs ue.xs _ (JC.out.ag.getK m5).r.us (JC.out.ag.getK m6).r.us (by omega) (by omega)).mono ?_
 rintro en w_ua h_
 obtain ⟨ua, rfl, r_, b_⟩ := retI_bw h_
 rw [(JC.out.ag.getK m5).r.v, (JC.out.ag.getK m6).r.v] at r_
 dsimp only
 have JD := Lib.hid (JC.out.step b_)
 have Rux := Lib.hid (Rux.out.next b_)
 have Ruy := Lib.hid (Ruy.out.next b_)
 have Rua := Lib.hid r_
 have hSJD := (And.intro (JD.out.ag.getK mc).c0 (And.intro (JD.out.ag.getK mc).c1 (And.intro (JD.out.ag.getK m5).c0 (And.intro (JD.out.ag.getK m5).c1 (And.intro (JD.out.ag.getK m7).c0 (And.intro (JD.out.ag.getK m7).c1 (And.intro (JD.out.ag.getK mz).c0 (And.intro (JD.out.ag.getK mz).c1 (And.intro (JD.out.ag.getK m6).c0 (And.intro (JD.out.ag.getK m6).c1 (And.intro (JD.out.ag.getK m8).c0 (JD.out.ag.getK m8).c1)))))))))))
 refine hK.out _ _ hSJD (fun _ => ?_)
 clear hK K h_ r_ b_
 refine wpAnyH_ready (rs := [10]) (by kernel_rfl) (by simp) (AllReadyH.cons rfl (fun K hK => ?_) AllReadyH.nil)
 go_simp
 refine (rbsub_any uz.s ua.s uz.a ua.a uz.c ua.c uz.xs ua.xs _ (JD.out.ag.getK mz).r.us Rua.out.us (by omega) (Nat.le_trans (LB.out _ _ _ Rua.out (by have := HM.out; omega) (by have := HM.out; omega)) (by omega))).mono ?_
 rintro en w_uv h_
 obtain ⟨uv, rfl, r_, b_⟩ := retI_bw h_
 rw [(JD.out.ag.getK mz).r.v, Rua.out.v] at r_
 dsimp only
 have JE := Lib.hid (JD.out.step b_)
 have Rux := Lib.hid (Rux.out.next b_)
 have Ruy := Lib.hid (Ruy.out.next b_)
 have Ruv := Lib.hid r_
 have hSJE := (And.intro (JE.out.ag.getK mc).c0 (And.intro (JE.out.ag.getK mc).c1 (And.intro (JE.out.ag.getK m5).c0 (And.intro (JE.out.ag.getK m5).c1 (And.intro (JE.out.ag.getK m7).c0 (And.intro (JE.out.ag.getK m7).c1 (And.intro (JE.out.ag.getK mz).c0 (And.intro (JE.out.ag.getK mz).c1 (And.intro (JE.out.ag.getK m6).c0 (And.intro (JE.out.ag.getK m6).c1 (And.intro (JE.out.ag.getK m8).c0 (JE.out.ag.getK m8).c1)))))))))))
 refine hK.out _ _ hSJE (fun _ => ?_)
 clear hK K h_ r_ b_
 refine wpAnyH_ready (rs := [14]) (by kernel_rfl) (by simp) (AllReadyH.cons rfl (fun K hK => ?_) AllReadyH.nil)
 go_simp
 refine (rbadd_any un.s us.s un.a us.a un.c us.c un.xs us.xs _ (JE.out.ag.getK m7).r.us (JE.out.ag.getK m8).r.us (by omega) (by omega)).mono ?_
 rintro en w_ub h_
 obtain ⟨ub, rfl, r_, b_⟩ := retI_bw h_
 rw [(JE.out.ag.getK m7).r.v, (JE.out.ag.getK m8).r.v] at r_
 dsimp only
 have JF := Lib.hid (JE.out.step b_)
 have Rux := Lib.hid (Rux.out.next b_)
 have Ruy := Lib.hid (Ruy.out.next b_)
 have Ruv := Lib.hid (Ruv.out.next b_)
 have Rub := Lib.hid r_
 have hSJF := (And.intro (JF.out.ag.getK mc).c0 (And.intro (JF.out.ag.getK mc).c1 (And.intro (JF.out.ag.getK m5).c0 (And.intro (JF.out.ag.getK m5).c1 (And.intro (JF.out.ag.getK m7).c0 (And.intro (JF.out.ag.getK m7).c1 (And.intro (JF.out.ag.getK mz).c0 (And.intro (JF.out.ag.getK mz).c1 (And.intro (JF.out.ag.getK m6).c0 (And.intro (JF.out.ag.getK m6).c1 (And.intro (JF.out.ag.getK m8).c0 (JF.out.ag.getK m8).c1)))))))))))
 refine hK.out _ _ hSJF (fun _ => ?_)
 clear hK K h_ r_ b_
 refine wpAnyH_ready (rs := [15]) (by kernel_rfl) (by simp) (AllReadyH.cons rfl (fun K hK => ?_) AllReadyH.nil)
 go_simp
 refine (rbsub_any uz.s ub.s uz.a ub.a uz.c ub.c uz.xs ub.xs _ (JF.out.ag.getK mz).r.us Rub.out.us (by omega) (Nat.le_trans (LB.out _ _ _ Rub.out (by have := HM.out; omega) (by have := HM.out; omega)) (by omega))).mono ?_
 rintro en w_ut h_
 obtain ⟨ut, rfl, r_, b_⟩ := retI_bw h_
 rw [(JF.out.ag.getK mz).r.v, Rub.out.v] at r_
 dsimp only
 have JG := Lib.hid (JF.out.step b_)
 have Rux := Lib.hid (Rux.out.next b_)
 have Ruy := Lib.hid (Ruy.out.next b_)
 have Ruv := Lib.hid (Ruv.out.next b_)
 have Rut := Lib.hid r_
 have hSJG := (And.intro (JG.out.ag.getK mc).c0 (And.intro (JG.out.ag.getK mc).c1 (And.intro (JG.out.ag.getK m5).c0 (And.intro (JG.out.ag.getK m5).c1 (And.intro (JG.out.ag.getK m7).c0 (And.intro (JG.out.ag.getK m7).c1 (And.intro (JG.out.ag.getK mz).c0 (And.intro (JG.out.ag.getK mz).c1 (And.intro (JG.out.ag.getK m6).c0 (And.intro (JG.out.ag.getK m6).c1 (And.intro (JG.out.ag.getK m8).c0 (JG.out.ag.getK m8).c1)))))))))))
 refine hK.out _ _ hSJG (fun _ => ?_)
 clear hK K h_ r_ b_
 refine wpAnyH_take (i := 16) (v := ?_) rfl (by kernel_rfl) (by kernel_rfl) (by kernel_rfl) (fun _ _ _ h => h) (Or.inl ⟨by rfl, ?_⟩) hSJG ?_
 rotate_left
 ·
  rintro w' ⟨s0_, s1_, s2_, s3_, s4_, s5_, s6_, s7_, s8_, s9_, s10_, s11_⟩
  go_simp
  first | done | with_reducible rfl | rfl
 simp only [Act.put, LA]
 have R9 := Lib.hid JG.out.r
 obtain ⟨z0, z1, z2, z3, z4, z5, z6, z7⟩ := Xb.cells R9.out
 obtain ⟨y0, y1, y2, y3, y4, y5, y6, y7⟩ := Xb.cellsF R9.out
 refine wpAnyH_ready (rs := [17]) (by kernel_rfl) (by simp) (AllReadyH.cons rfl (fun K hK => ?_) AllReadyH.nil)
 go_simp
 have fr : ∀ g, w.heap.size + 1 < g → ∀ (k : Nat) (v : Value), w_ut.cell? ⟨g, k, none⟩ = some v → (putX w_ut (w.heap.size + 1) ⟨ux, uy, uv, ut⟩).cell? ⟨g, k, none⟩ = some v := fun g hg k v hv => (World.cell?_of_block (w := w_ut) (a := ⟨g, k, none⟩) (putX_far (Nat.ne_of_gt hg) ⟨ux, uy, uv, ut⟩)).trans hv
 obtain ⟨k_gc, k_gz, k_g5, k_g6, k_g7, k_g8⟩ := HGS.out
 have hS9 := (And.intro (fr gc k_gc _ _ (JG.out.ag.getK mc).c0) (And.intro (fr gc k_gc _ _ (JG.out.ag.getK mc).c1) (And.intro (fr g5 k_g5 _ _ (JG.out.ag.getK m5).c0) (And.intro (fr g5 k_g5 _ _ (JG.out.ag.getK m5).c1) (And.intro (fr g7 k_g7 _ _ (JG.out.ag.getK m7).c0) (And.intro (fr g7 k_g7 _ _ (JG.out.ag.getK m7).c1) (And.intro (fr gz k_gz _ _ (JG.out.ag.getK mz).c0) (And.intro (fr gz k_gz _ _ (JG.out.ag.getK mz).c1) (And.intro (fr g6 k_g6 _ _ (JG.out.ag.getK m6).c0) (And.intro (fr g6 k_g6 _ _ (JG.out.ag.getK m6).c1) (And.intro (fr g8 k_g8 _ _ (JG.out.ag.getK m8).c0) (fr g8 k_g8 _ _ (JG.out.ag.getK m8).c1))))))))))))
 have hS8 := hS9
 dsimp only [putX] at hS8
 refine hK.out _ _ hS8 (fun _ => ?_)
 clear hS8
 clear hK K z0 z1 z2 z3 z4 z5 z6 z7 y0 y1 y2 y3 y4 y5 y6 y7
 change wpAnyH _ _ _ _ _ _ _ _ (putX w_ut (w.heap.size + 1) ⟨ux, uy, uv, ut⟩)
 have RF := Lib.hid (putX_at R9.out ⟨ux, uy, uv, ut⟩)
 have HX := Lib.hid (show Xb.R ⟨ux, uy, uv, ut⟩ (putX w_ut (w.heap.size + 1) ⟨ux, uy, uv, ut⟩) (-p2 (top - 1) + Dw) (-p2 (top - 1) + Dn) (p2 top - (Dw + De)) (p2 top - (Dn + Ds)) from ⟨Rux.out.putX R9.out _, Ruy.out.putX R9.out _, Ruv.out.putX R9.out _, Rut.out.putX R9.out _⟩)
 have BF := Lib.hid (below_putX JG.out.ag.b (g := w.heap.size + 1) (Nat.le_succ _) ⟨ux, uy, uv, ut⟩)
 clear fr
 generalize putX w_ut (w.heap.size + 1) ⟨ux, uy, uv, ut⟩ = W9 at *
 refine wpAnyH_take (i := 18) (v := ?_) rfl (by kernel_rfl) (by kernel_rfl) (by kernel_rfl) (fun _ _ _ h => h) (Or.inl ⟨by rfl, ?_⟩) hS9 ?_
 rotate_left
 ·
  rintro w' ⟨s0_, s1_, s2_, s3_, s4_, s5_, s6_, s7_, s8_, s9_, s10_, s11_⟩
  go_simp
  first | done | with_reducible rfl | rfl
 simp only [Act.put, LA]
 refine wpAnyH_done (by kernel_rfl) ?_ _
 refine NoPanic.normal ?_
 go_wp2_with fail
 obtain ⟨z0, z1, z2, z3, z4, z5, z6, z7⟩ := Xb.cells RF.out
 refine bodyPost_ret (v := .tuple #[(⟨ux, uy, uv, ut⟩ : Xb).val, .bool true]) (by simp [results, Tryz.results50, go_sem, z0, z1, z2, z3, z4, z5, z6, z7]) rfl ?_
 have hm := HM.out
 refine ⟨⟨ux, uy, uv, ut⟩, _, _, _, _, true, rfl, HX.out, ⟨LB.out _ _ _ HX.out.x (by omega) (by omega), LB.out _ _ _ HX.out.y (by omega) (by omega), LB.out _ _ _ HX.out.w (by omega) (by omega), LB.out _ _ _ HX.out.h (by omega) (by omega)⟩, BF.out, .inr ⟨h0, rfl, ?_⟩⟩
 have ew := Ew.out
 have ee := Ee.out
 have e9 := En.out
 have es := Es.out
 rw [HT.out, Int.toNat_natCast] at ew ee e9 es ⊢
 refine ⟨?_, ?_, ?_, ?_⟩
 ·
  rwa [show -p2 (top - 1) + Dw + p2 (top - 1) = Dw by omega]
 ·
  rwa [show -p2 (top - 1) + Dn + p2 (top - 1) = Dn by omega]
 ·
  rwa [show p2 top - (p2 top - (Dw + De)) - (-p2 (top - 1) + Dw + p2 (top - 1)) = De by omega]
 ·
  rwa [show p2 top - (p2 top - (Dn + Ds)) - (-p2 (top - 1) + Dn + p2 (top - 1)) = Ds by omega]
end Go.Proofs.YtajgfmfopkggdaaGreat

namespace Go.Proofs.YtajgfmfopkggdaaGreat
open Go.RowKit Num Nds
set_option maxHeartbeats 6400000 in
theorem rbox_zero (A : Option Addr) (c : Nat) (w : World) : Calls Tryz.prog 50 #[.agg #[.slice A 0 c]] w (RetBx [] 0 w) := by
 have b1 := (Below.refl w.heap.size w).alloc (Nat.le_refl _) (.cells #[.slice A 0 c] 26)
 have b2 := b1.alloc (by simp) xb0.obj
 have hr := heap_alloc_new (w.alloc (.cells #[.slice A 0 c] 26)) xb0.obj
 rw [World.size_alloc] at hr
 obtain ⟨e0, e1, e2, e3, e4, e5, e6, e7⟩ := Xb.cells hr
 have HB := Lib.hid b2
 dsimp only [xb0, bw0, Xb.obj, List.length_nil] at e0 e1 e2 e3 e4 e5 e6 e7 HB
 clear b1 b2 hr
 go_enter Tryz.func50, Tryz.ntmps50
 go_wp2_with fail
 refine bodyPost_ret (v := .tuple #[xb0.val, .bool false]) (by simp [results, Tryz.results50, go_sem, e0, e1, e2, e3, e4, e5, e6, e7, xb0, bw0]) rfl ?_
 exact ⟨xb0, 0, 0, 0, 0, false, rfl, ⟨bw0_r _, bw0_r _, bw0_r _, bw0_r _⟩, ⟨by simp [xb0, bw0], by simp [xb0, bw0], by simp [xb0, bw0], by simp [xb0, bw0]⟩, HB.out, .inl ⟨rfl, rfl, rfl, rfl, rfl, rfl⟩⟩
theorem rbox_any (n c : Nat) (A : Option Addr) (l : List Nd) (w : World) (h : Ns w A c l) (hn : l.length = n) (hn9 : n ≤ 900000) (hg : GoodL l) :
  Calls Tryz.prog 50 #[.agg #[.slice A n c]] w (RetBx l n w) := by
 by_cases h0 : 0 < n
 ·
  exact rbox_some n c A l w h hn h0 hn9 hg
 ·
  have e0 : n = 0 := by omega
  subst e0
  have e1 : l = [] := List.length_eq_zero_iff.1 hn
  subst e1
  exact rbox_zero A c w
set_option maxHeartbeats 6400000 in
theorem rboxin_any (n c : Nat) (A : Option Addr) (l : List Nd) (most : Int) (w : World) (h : Ns w A c l) (hn : l.length = n) (hn9 : n ≤ 900000) (hg : GoodL l) (hm : -9223372036854775808 ≤ most ∧ most ≤ 9223372036854775807) :
  Calls Tryz.prog 49 #[.agg #[.slice A n c], .int .i64 most] w (RetWi l n most w) := by
 have hcap := h.cap
 rw [hn] at hcap
 have hB := (Below.refl w.heap.size w).alloc (Nat.le_refl _) (.cells #[.slice A n c] 26)
 have HB := Lib.hid hB
 have HN := Lib.hid (h.below hB)
 have HNL := Lib.hid hn
 have HG := Lib.hid hg
 have q0 : True := trivial
 clear h hn hg hB
 go_enter Tryz.func49, Tryz.ntmps49
 go_upto_region 2 with (first
  | (have _t := q0; go_at_call 50; clear _t; go_loud (refine (rbox_any n c A l _ HN.out HNL.out hn9 HG.out).mono ?_; rintro e w1 ⟨u, X, Y, V, H, ok, rfl, ru, su, b1, bv⟩; have hb3 := (Below.refl w1.heap.size w1).alloc (Nat.le_refl _) u.obj; have KX := Lib.hid (heap_alloc_new w1 u.obj); have RU := Lib.hid (ru.next hb3); have SU := Lib.hid su; have BV := Lib.hid (show BxV l n ok X Y V H from bv); have B1 := Lib.hid (HB.out.trans ((b1.trans (hb3.mono b1.size)).mono HB.out.size)); clear ru su b1 bv hb3; have q1 := q0; clear q0)))
 obtain ⟨c0, c1, c2, c3, c4, c5, c6, c7⟩ := Xb.cells KX.out
 have lw := SU.out.w
 have lh := SU.out.h
 obtain ⟨W, hW⟩ : ∃ W : World, W = (w1.alloc u.obj).drewN 1 := ⟨_, rfl⟩
 have hd := below_drewN (Below.refl (w1.alloc u.obj).heap.size (w1.alloc u.obj)) 1
 rw [← hW] at hd
 have RU := Lib.hid (RU.out.next hd)
 have KX := Lib.hid ((hd.block _ (heapLt KX.out)).trans KX.out)
 have B1 := Lib.hid (B1.out.trans (hd.mono B1.out.size))
 have HW := Lib.hid hW
 obtain ⟨r1, hr1⟩ : ∃ r, r = ordI V most := ⟨_, rfl⟩
 obtain ⟨r2, hr2⟩ : ∃ r, r = ordI H most := ⟨_, rfl⟩
 have e1 := ordI_le V most
 have e2 := ordI_le H most
 rw [← hr1] at e1
 rw [← hr2] at e2
 have HR1 := Lib.hid hr1
 have HR2 := Lib.hid hr2
 have HE1 := Lib.hid e1
 have HE2 := Lib.hid e2
 have LO : ∀ (o : Bw) (W1 : World), o.R W1 most → o.xs.length ≤ 50000 := fun o W1 ro => Nat.le_trans (bw_len ro (by have := p2_mono (show 64 ≤ 1330 by omega); have : p2 64 = 18446744073709551616 := rfl; omega) (by have := p2_mono (show 64 ≤ 1330 by omega); have : p2 64 = 18446744073709551616 := rfl; omega)) (by omega)
 have HLO := Lib.hid LO
 clear hr1 hr2 e1 e2 c0 c1 c2 c3 LO hd hW
 obtain ⟨g5, hg5⟩ : ∃ g, g = w1.heap.size := ⟨_, rfl⟩
 rw [← hg5] at KX c4 c5 c6 c7 ⊢
 have RU0 := RU
 have KX0 := KX
 have B0 := B1
 clear RU B1 hg5 c4 c5 c6 c7
 obtain ⟨-, -, -, -, c4, c5, c6, c7⟩ := Xb.cells KX0.out
 by_cases hV : V ≤ most
 ·
  have t1 : decide (r1 ≤ 0) = true := by rw [HE1.out]; exact decide_eq_true hV
  have HV := Lib.hid hV
  clear hV
  refine wp_region_noPanic ?_
  refine wp_region_held (S := fun w' => w'.cell? ⟨g5, 4, none⟩ = some (.bool u.w.s) ∧ w'.cell? ⟨g5, 5, none⟩ = some (.slice u.w.a u.w.xs.length u.w.c) ∧ w'.cell? ⟨g5, 6, none⟩ = some (.bool u.h.s) ∧ w'.cell? ⟨g5, 7, none⟩ = some (.slice u.h.a u.h.xs.length u.h.c)) (by kernel_rfl) ?_
  change wpAnyH _ _ _ _ _ _ _ _ ((w1.alloc u.obj).drewN 1)
  rw [← HW.out]
  have hS0 := (And.intro c4 (And.intro c5 (And.intro c6 c7)))
  clear c4 c5 c6 c7
  refine wpAnyH_take (i := 0) (v := ?_) rfl (by kernel_rfl) (by kernel_rfl) (by kernel_rfl) (fun _ _ _ h => h) (Or.inl ⟨by rfl, ?_⟩) hS0 ?_
  rotate_left
  ·
   rintro w' ⟨s0_, s1_, s2_, s3_⟩
   go_simp
   first | done | with_reducible rfl | rfl
  simp only [Act.put, LA]
  refine wpAnyH_take (i := 1) (v := ?_) rfl (by kernel_rfl) (by kernel_rfl) (by kernel_rfl) (fun _ _ _ h => h) (Or.inl ⟨by rfl, ?_⟩) hS0 ?_
  rotate_left
  ·
   rintro w' ⟨s0_, s1_, s2_, s3_⟩
   go_simp
   first | done | with_reducible rfl | rfl
  simp only [Act.put, LA]
  refine wpAnyH_take (i := 2) (v := ?_) rfl (by kernel_rfl) (by kernel_rfl) (by kernel_rfl) (fun _ _ _ h => h) (Or.inl ⟨by rfl, ?_⟩) hS0 ?_
  rotate_left
  ·
   rintro w' ⟨s0_, s1_, s2_, s3_⟩
   go_simp
   first | done | with_reducible rfl | rfl
  simp only [Act.put, LA]
  refine wpAnyH_ready (rs := [3]) (by kernel_rfl) (by simp) (AllReadyH.cons rfl (fun K hK => ?_) AllReadyH.nil)
  go_simp
  refine (rbof_any most _ hm.1 hm.2).mono ?_
  rintro en W1 h_
  obtain ⟨o1, rfl, r_, b_⟩ := retI_bw h_
  dsimp only
  have RO1 := Lib.hid r_
  have RU1 := Lib.hid (RU0.out.next b_)
  have KX1 := Lib.hid ((b_.block _ (heapLt KX0.out)).trans KX0.out)
  have B1 := Lib.hid (B0.out.trans (b_.mono B0.out.size))
  have lo1 := HLO.out _ _ r_
  obtain ⟨-, -, -, -, c4, c5, c6, c7⟩ := Xb.cells KX1.out
  have hS1 := (And.intro c4 (And.intro c5 (And.intro c6 c7)))
  refine hK.out _ _ hS1 (fun _ => ?_)
  clear hK K h_ r_ b_ c4 c5 c6 c7
  refine wpAnyH_ready (rs := [4]) (by kernel_rfl) (by simp) (AllReadyH.cons rfl (fun K hK => ?_) AllReadyH.nil)
  go_simp
  refine (rbcmp_any u.w.s o1.s u.w.a o1.a u.w.c o1.c u.w.xs o1.xs _ RU1.out.w.us RO1.out.us (by omega) (by omega)).mono ?_
  rintro en W2 ⟨rfl, b_⟩
  rw [RU1.out.w.v, RO1.out.v, ← HR1.out]
  dsimp only
  have RU2 := Lib.hid (RU1.out.next b_)
  have KX2 := Lib.hid ((b_.block _ (heapLt KX1.out)).trans KX1.out)
  have B2 := Lib.hid (B1.out.trans (b_.mono B1.out.size))
  obtain ⟨-, -, -, -, c4, c5, c6, c7⟩ := Xb.cells KX2.out
  have hS2 := (And.intro c4 (And.intro c5 (And.intro c6 c7)))
  refine hK.out _ _ hS2 (fun _ => ?_)
  clear hK K b_ c4 c5 c6 c7
  refine wpAnyH_take (i := 5) (v := ?_) rfl (by kernel_rfl) (by kernel_rfl) (by kernel_rfl) (fun _ _ _ h => h) (Or.inl ⟨by rfl, ?_⟩) hS2 ?_
  rotate_left
  ·
   rintro w' ⟨s0_, s1_, s2_, s3_⟩
   go_simp
   first | done | with_reducible rfl | rfl
  simp only [Act.put, LA]
  refine wpAnyH_take (i := 6) (v := ?_) rfl (by kernel_rfl) (by kernel_rfl) (by kernel_rfl) (fun _ _ _ h => h) (Or.inl ⟨by rfl, ?_⟩) hS2 ?_
  rotate_left
  ·
   rintro w' ⟨s0_, s1_, s2_, s3_⟩
   go_simp
   first | done | with_reducible rfl | rfl
  simp only [Act.put, LA]
  refine wpAnyH_take (i := 7) (v := ?_) rfl (by kernel_rfl) (by kernel_rfl) (by kernel_rfl) (fun _ _ _ h => h) (Or.inl ⟨by rfl, ?_⟩) hS2 ?_
  rotate_left
  ·
   rintro w' ⟨s0_, s1_, s2_, s3_⟩
   go_simp
   first | done | with_reducible rfl | rfl
  simp only [Act.put, LA]
  refine wpAnyH_take (i := 8) (v := ?_) rfl (by kernel_rfl) (by kernel_rfl) (by kernel_rfl) (fun _ _ _ h => h) (Or.inl ⟨by rfl, ?_⟩) hS2 ?_
  rotate_left
  ·
   rintro w' ⟨s0_, s1_, s2_, s3_⟩
   go_simp
   first | done | with_reducible rfl | rfl
  simp only [Act.put, LA]
  refine wpAnyH_take (i := 9) (v := ?_) rfl (by kernel_rfl) (by kernel_rfl) (by kernel_rfl) (fun _ _ _ h => h) (Or.inl ⟨by rfl, ?_⟩) hS2 ?_
  rotate_left
  ·
   rintro w' ⟨s0_, s1_, s2_, s3_⟩
   go_simp
   first | done | with_reducible rfl | rfl
  simp only [Act.put, LA]
  refine wpAnyH_ready (rs := [10]) (by kernel_rfl) (by simp) (AllReadyH.cons rfl (fun K hK => ?_) AllReadyH.nil)
  go_simp
  refine (rbof_any most _ hm.1 hm.2).mono ?_
  rintro en W3 h_
  obtain ⟨o3, rfl, r_, b_⟩ := retI_bw h_
  dsimp only
  have RO3 := Lib.hid r_
  have RU3 := Lib.hid (RU2.out.next b_)
  have KX3 := Lib.hid ((b_.block _ (heapLt KX2.out)).trans KX2.out)
  have B3 := Lib.hid (B2.out.trans (b_.mono B2.out.size))
  have lo3 := HLO.out _ _ r_
  obtain ⟨-, -, -, -, c4, c5, c6, c7⟩ := Xb.cells KX3.out
  have hS3 := (And.intro c4 (And.intro c5 (And.intro c6 c7)))
  refine hK.out _ _ hS3 (fun _ => ?_)
  clear hK K h_ r_ b_ c4 c5 c6 c7
  refine wpAnyH_ready (rs := [11]) (by kernel_rfl) (by simp) (AllReadyH.cons rfl (fun K hK => ?_) AllReadyH.nil)
  go_simp
  refine (rbcmp_any u.h.s o3.s u.h.a o3.a u.h.c o3.c u.h.xs o3.xs _ RU3.out.h.us RO3.out.us (by omega) (by omega)).mono ?_
  rintro en W4 ⟨rfl, b_⟩
  rw [RU3.out.h.v, RO3.out.v, ← HR2.out]
  dsimp only
  have RU4 := Lib.hid (RU3.out.next b_)
  have KX4 := Lib.hid ((b_.block _ (heapLt KX3.out)).trans KX3.out)
  have B4 := Lib.hid (B3.out.trans (b_.mono B3.out.size))
  obtain ⟨-, -, -, -, c4, c5, c6, c7⟩ := Xb.cells KX4.out
  have hS4 := (And.intro c4 (And.intro c5 (And.intro c6 c7)))
  refine hK.out _ _ hS4 (fun _ => ?_)
  clear hK K b_ c4 c5 c6 c7
  refine wpAnyH_take (i := 12) (v := ?_) rfl (by kernel_rfl) (by kernel_rfl) (by kernel_rfl) (fun _ _ _ h => h) (Or.inl ⟨by rfl, ?_⟩) hS4 ?_
  rotate_left
  ·
   rintro w' ⟨s0_, s1_, s2_, s3_⟩
   go_simp
   first | done | with_reducible rfl | rfl
  simp only [Act.put, LA]
  refine wpAnyH_take (i := 13) (v := ?_) rfl (by kernel_rfl) (by kernel_rfl) (by kernel_rfl) (fun _ _ _ h => h) (Or.inl ⟨by rfl, ?_⟩) hS4 ?_
  rotate_left
  ·
   rintro w' ⟨s0_, s1_, s2_, s3_⟩
   go_simp
   first | done | with_reducible rfl | rfl
  simp only [Act.put, LA]
  refine wpAnyH_take (i := 14) (v := ?_) rfl (by kernel_rfl) (by kernel_rfl) (by kernel_rfl) (fun _ _ _ h => h) (Or.inl ⟨by rfl, ?_⟩) hS4 ?_
  rotate_left
  ·
   rintro w' ⟨s0_, s1_, s2_, s3_⟩
   go_simp
   first | done | with_reducible rfl | rfl
  simp only [Act.put, LA]
  refine wpAnyH_done (by kernel_rfl) ?_ _
  refine NoPanic.normal ?_
  go_wp2_with fail
  go_ret
  exact ⟨X, Y, V, H, ok, by rw [decide_eq_true (show V ≤ most by have := HV.out; omega), Bool.true_and]; first | rfl | (rw [← HE2.out]; rfl), BV.out, B4.out⟩
 ·
  have t1 : decide (r1 ≤ 0) = false := by rw [HE1.out]; exact decide_eq_false hV
  have HV := Lib.hid hV
  clear hV
  refine wp_region_noPanic ?_
  refine wp_region_held (S := fun w' => w'.cell? ⟨g5, 4, none⟩ = some (.bool u.w.s) ∧ w'.cell? ⟨g5, 5, none⟩ = some (.slice u.w.a u.w.xs.length u.w.c) ∧ w'.cell? ⟨g5, 6, none⟩ = some (.bool u.h.s) ∧ w'.cell? ⟨g5, 7, none⟩ = some (.slice u.h.a u.h.xs.length u.h.c)) (by kernel_rfl) ?_
  change wpAnyH _ _ _ _ _ _ _ _ ((w1.alloc u.obj).drewN 1)
  rw [← HW.out]
  have hS0 := (And.intro c4 (And.intro c5 (And.intro c6 c7)))
  clear c4 c5 c6 c7
  refine wpAnyH_take (i := 0) (v := ?_) rfl (by kernel_rfl) (by kernel_rfl) (by kernel_rfl) (fun _ _ _ h => h) (Or.inl ⟨by rfl, ?_⟩) hS0 ?_
  rotate_left
  ·
   rintro w' ⟨s0_, s1_, s2_, s3_⟩
   go_simp
   first | done | with_reducible rfl | rfl
  simp only [Act.put, LA]
  refine wpAnyH_take (i := 1) (v := ?_) rfl (by kernel_rfl) (by kernel_rfl) (by kernel_rfl) (fun _ _ _ h => h) (Or.inl ⟨by rfl, ?_⟩) hS0 ?_
  rotate_left
  ·
   rintro w' ⟨s0_, s1_, s2_, s3_⟩
   go_simp
   first | done | with_reducible rfl | rfl
  simp only [Act.put, LA]
  refine wpAnyH_take (i := 2) (v := ?_) rfl (by kernel_rfl) (by kernel_rfl) (by kernel_rfl) (fun _ _ _ h => h) (Or.inl ⟨by rfl, ?_⟩) hS0 ?_
  rotate_left
  ·
   rintro w' ⟨s0_, s1_, s2_, s3_⟩
   go_simp
   first | done | with_reducible rfl | rfl
  simp only [Act.put, LA]
  refine wpAnyH_ready (rs := [3]) (by kernel_rfl) (by simp) (AllReadyH.cons rfl (fun K hK => ?_) AllReadyH.nil)
  go_simp
  refine (rbof_any most _ hm.1 hm.2).mono ?_
  rintro en W1 h_
  obtain ⟨o1, rfl, r_, b_⟩ := retI_bw h_
  dsimp only
  have RO1 := Lib.hid r_
  have RU1 := Lib.hid (RU0.out.next b_)
  have KX1 := Lib.hid ((b_.block _ (heapLt KX0.out)).trans KX0.out)
  have B1 := Lib.hid (B0.out.trans (b_.mono B0.out.size))
  have lo1 := HLO.out _ _ r_
  obtain ⟨-, -, -, -, c4, c5, c6, c7⟩ := Xb.cells KX1.out
  have hS1 := (And.intro c4 (And.intro c5 (And.intro c6 c7)))
  refine hK.out _ _ hS1 (fun _ => ?_)
  clear hK K h_ r_ b_ c4 c5 c6 c7
  refine wpAnyH_ready (rs := [4]) (by kernel_rfl) (by simp) (AllReadyH.cons rfl (fun K hK => ?_) AllReadyH.nil)
  go_simp
  refine (rbcmp_any u.w.s o1.s u.w.a o1.a u.w.c o1.c u.w.xs o1.xs _ RU1.out.w.us RO1.out.us (by omega) (by omega)).mono ?_
  rintro en W2 ⟨rfl, b_⟩
  rw [RU1.out.w.v, RO1.out.v, ← HR1.out]
  dsimp only
  have RU2 := Lib.hid (RU1.out.next b_)
  have KX2 := Lib.hid ((b_.block _ (heapLt KX1.out)).trans KX1.out)
  have B2 := Lib.hid (B1.out.trans (b_.mono B1.out.size))
  obtain ⟨-, -, -, -, c4, c5, c6, c7⟩ := Xb.cells KX2.out
  have hS2 := (And.intro c4 (And.intro c5 (And.intro c6 c7)))
  refine hK.out _ _ hS2 (fun _ => ?_)
  clear hK K b_ c4 c5 c6 c7
  refine wpAnyH_take (i := 5) (v := ?_) rfl (by kernel_rfl) (by kernel_rfl) (by kernel_rfl) (fun _ _ _ h => h) (Or.inl ⟨by rfl, ?_⟩) hS2 ?_
  rotate_left
  ·
   rintro w' ⟨s0_, s1_, s2_, s3_⟩
   go_simp
   first | done | with_reducible rfl | rfl
  simp only [Act.put, LA]
  refine wpAnyH_take (i := 6) (v := ?_) rfl (by kernel_rfl) (by kernel_rfl) (by kernel_rfl) (fun _ _ _ h => h) (Or.inl ⟨by rfl, ?_⟩) hS2 ?_
  rotate_left
  ·
   rintro w' ⟨s0_, s1_, s2_, s3_⟩
   go_simp
   first | done | with_reducible rfl | rfl
  simp only [Act.put, LA]
  refine wpAnyH_take (i := 7) (v := undef) rfl (by kernel_rfl) (by kernel_rfl) (by kernel_rfl) (fun _ _ _ h => h) (Or.inr ⟨by rfl, rfl⟩) hS2 ?_
  simp only [Act.put, LA]
  refine wpAnyH_take (i := 8) (v := undef) rfl (by kernel_rfl) (by kernel_rfl) (by kernel_rfl) (fun _ _ _ h => h) (Or.inr ⟨by rfl, rfl⟩) hS2 ?_
  simp only [Act.put, LA]
  refine wpAnyH_take (i := 9) (v := undef) rfl (by kernel_rfl) (by kernel_rfl) (by kernel_rfl) (fun _ _ _ h => h) (Or.inr ⟨by rfl, rfl⟩) hS2 ?_
  simp only [Act.put, LA]
  refine wpAnyH_take (i := 10) (v := undef) rfl (by kernel_rfl) (by kernel_rfl) (by kernel_rfl) (fun _ _ _ h => h) (Or.inr ⟨by rfl, rfl⟩) hS2 ?_
  simp only [Act.put, LA]
  refine wpAnyH_take (i := 11) (v := undef) rfl (by kernel_rfl) (by kernel_rfl) (by kernel_rfl) (fun _ _ _ h => h) (Or.inr ⟨by rfl, rfl⟩) hS2 ?_
  simp only [Act.put, LA]
  refine wpAnyH_take (i := 12) (v := undef) rfl (by kernel_rfl) (by kernel_rfl) (by kernel_rfl) (fun _ _ _ h => h) (Or.inr ⟨by rfl, rfl⟩) hS2 ?_
  simp only [Act.put, LA]
  refine wpAnyH_take (i := 13) (v := ?_) rfl (by kernel_rfl) (by kernel_rfl) (by kernel_rfl) (fun _ _ _ h => h) (Or.inl ⟨by rfl, ?_⟩) hS2 ?_
  rotate_left
  ·
   rintro w' ⟨s0_, s1_, s2_, s3_⟩
   go_simp
   first | done | with_reducible rfl | rfl
  simp only [Act.put, LA]
  refine wpAnyH_take (i := 14) (v := ?_) rfl (by kernel_rfl) (by kernel_rfl) (by kernel_rfl) (fun _ _ _ h => h) (Or.inl ⟨by rfl, ?_⟩) hS2 ?_
  rotate_left
  ·
   rintro w' ⟨s0_, s1_, s2_, s3_⟩
   go_simp
   first | done | with_reducible rfl | rfl
  simp only [Act.put, LA]
  refine wpAnyH_done (by kernel_rfl) ?_ _
  refine NoPanic.normal ?_
  go_wp2_with fail
  go_ret
  exact ⟨X, Y, V, H, ok, by rw [decide_eq_false (show ¬ V ≤ most by have := HV.out; omega), Bool.false_and]; rfl, BV.out, B2.out⟩
end Go.Proofs.YtajgfmfopkggdaaGreat
