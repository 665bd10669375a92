import Derived.Test.YtajgfmfopkggdaaGreatGGdY

set_option linter.unusedVariables false
set_option linter.unusedSimpArgs false
set_option maxRecDepth 100000
set_option maxHeartbeats 6400000
namespace Go.Proofs.YtajgfmfopkggdaaGreat
open Go.RowKit Num Nds
structure Sx (w W : World) (K : List (Nat × Obj)) (G : List (Gr × Int × Int)) (Q : List (Option Addr × Nat × List Nd)) : Prop where
 b : Below w.heap.size w W
 bx : ∀ (i g : Nat) (o : Obj), K[i]? = some (g, o) → W.heap[g]? = some o
 gs : ∀ (i : Nat) (u : Gr) (X Y : Int), G[i]? = some (u, X, Y) → u.R W X Y
 qs : ∀ (i : Nat) (A : Option Addr) (c : Nat) (q : List Nd), Q[i]? = some (A, c, q) → Ns W A c q
theorem Sx.start (w : World) : Sx w w [] [] [] := ⟨Below.refl _ _, fun i g o h => by simp at h, fun i u X Y h => by simp at h, fun i A c q h => by simp at h⟩
theorem Sx.next {w W W1 : World} {K : List (Nat × Obj)} {G : List (Gr × Int × Int)} {Q : List (Option Addr × Nat × List Nd)} (s : Sx w W K G Q) (k : Below W.heap.size W W1) : Sx w W1 K G Q :=
 ⟨s.b.trans (k.mono s.b.size), fun i g o h => (k.block _ (heapLt (s.bx i g o h))).trans (s.bx i g o h), fun i u X Y h => (s.gs i u X Y h).next k, fun i A c q h => (s.qs i A c q h).below k⟩
theorem snoc_at {α : Type} {l : List α} {x y : α} {i : Nat} (h : (l ++ [x])[i]? = some y) : l[i]? = some y ∨ y = x := by
 rw [List.getElem?_append] at h
 split at h
 ·exact .inl h
 ·refine .inr ?_
  have := List.mem_of_getElem? h
  exact (List.mem_singleton.1 this)
theorem Sx.box {w W : World} {K : List (Nat × Obj)} {G : List (Gr × Int × Int)} {Q : List (Option Addr × Nat × List Nd)} (s : Sx w W K G Q) (o : Obj) : Sx w (W.alloc o) (K ++ [(W.heap.size, o)]) G Q := by
 have t := s.next ((Below.refl W.heap.size W).alloc (Nat.le_refl _) o)
 refine ⟨t.b, fun i g o' h => ?_, t.gs, t.qs⟩
 rcases snoc_at h with h | h
 ·exact t.bx i g o' h
 ·cases h
  exact heap_alloc_new W o
theorem Sx.addG {w W : World} {K : List (Nat × Obj)} {G : List (Gr × Int × Int)} {Q : List (Option Addr × Nat × List Nd)} (s : Sx w W K G Q) {u : Gr} {X Y : Int} (h : u.R W X Y) : Sx w W K (G ++ [(u, X, Y)]) Q := by
 refine ⟨s.b, s.bx, fun i u' X' Y' k => ?_, s.qs⟩
 rcases snoc_at k with k | k
 ·exact s.gs i u' X' Y' k
 ·cases k
  exact h
theorem Sx.addQ {w W : World} {K : List (Nat × Obj)} {G : List (Gr × Int × Int)} {Q : List (Option Addr × Nat × List Nd)} (s : Sx w W K G Q) {A : Option Addr} {c : Nat} {q : List Nd} (h : Ns W A c q) : Sx w W K G (Q ++ [(A, c, q)]) := by
 refine ⟨s.b, s.bx, s.gs, fun i A' c' q' k => ?_⟩
 rcases snoc_at k with k | k
 ·exact s.qs i A' c' q' k
 ·cases k
  exact h
theorem ts_lit {W : World} {g : Nat} {L : List (List UInt8)} (hb : W.heap[g]? = some (.cells (L.map strV).toArray 9)) (hl : ∀ r ∈ L, r.length ≤ maxLen) (hn : L.length ≤ maxLen) : Ts W (some ⟨g, 0, none⟩) L.length L :=
 ⟨hl, by simp, hn, fun _ => ⟨g, 0, rfl, heapLt hb, fun j u hu => by
  rw [cell_of_row _ _ _ _ _ _ hb, Nat.zero_add]
  simpa using hu⟩⟩
theorem sameG_yes {W : World} {u v : Gr} {X Y : Int} (h : u.R W X Y) (k : v.R W X Y) (e : u.L = v.L) : sameG u v = true := by
 unfold sameG
 rw [decide_eq_true (uniqI h.x.us.1 k.x.us.1 h.x.cn k.x.cn (h.x.v.trans k.x.v.symm)), decide_eq_true (uniqI h.y.us.1 k.y.us.1 h.y.cn k.y.cn (h.y.v.trans k.y.v.symm)), decide_eq_true e]
 rfl
theorem sameG_no {W : World} {u v : Gr} {X Y X' Y' : Int} (h : u.R W X Y) (k : v.R W X' Y') (e : X ≠ X') : sameG u v = false := by
 unfold sameG
 rw [decide_eq_false fun h1 => e (by rw [← h.x.v, ← k.x.v, h1.1, h1.2])]
 rfl
def rows10 : List (List UInt8) := [[1, 0, 1]]
def bad10 : List (List UInt8) := [[], [120]]
def c10 (A B : Int) : List Cl := [⟨A, B, 1⟩, ⟨A + 2, B, 1⟩]
def P10 (A B : Int) : Prop := (A = 2 ∧ B = 3) ∨ (A = 0 ∧ B = 0)
theorem pic10 {A B : Int} (h : P10 A B) : picL (picS rows10) A B (wideG rows10) rows10.length = c10 A B := by
 rcases h with ⟨rfl, rfl⟩ | ⟨rfl, rfl⟩ <;> kernel_rfl
theorem last10 {A B : Int} (h : P10 A B) : lastF (c10 A B) = c10 A B := by
 rcases h with ⟨rfl, rfl⟩ | ⟨rfl, rfl⟩ <;> kernel_rfl
theorem least10 {A B : Int} (h : P10 A B) : leastF (c10 A B) ≤ 1329 := by
 rcases h with ⟨rfl, rfl⟩ | ⟨rfl, rfl⟩
 ·have h : decide (leastF (c10 2 3) ≤ 1329) = true := by kernel_rfl
  exact of_decide_eq_true h
 ·have h : decide (leastF (c10 0 0) ≤ 1329) = true := by kernel_rfl
  exact of_decide_eq_true h
theorem len10 {A B : Int} (h : P10 A B) {q : List Nd} (k : QuadOf (c10 A B) q) : q.length ≤ 900000 := by
 rw [← last10 h] at k
 have := k.lenF.2
 rw [last10 h] at this
 exact Nat.le_trans this (show 1329 * 2 ≤ 900000 by omega)
theorem lk10 {A B x y : Int} (h : lk (c10 A B) x y ≠ 0) : y = B ∧ (x = A ∨ x = A + 2) := by
 unfold c10 lk lk lk at h
 dsimp only at h
 split at h
 ·rename_i h1
  omega
 ·split at h
  ·rename_i h1
   omega
  ·exact absurd rfl h
theorem box10 {A B : Int} {q : List Nd} (k : QuadOf (c10 A B) q) {ok : Bool} {X Y V H : Int} (b : BxV q q.length ok X Y V H) : X = A ∧ Y = B ∧ V = 3 ∧ H = 1 := by
 have hd := k.den
 have c1 : cellM (den q q.length) A B = 1 := by
  rw [hd]; unfold c10 lk; rw [if_pos ⟨rfl, rfl⟩]
 have c2 : cellM (den q q.length) (A + 2) B = 1 := by
  rw [hd]; unfold c10 lk lk; rw [if_neg (by dsimp only; omega), if_pos ⟨rfl, rfl⟩]
 have only : ∀ x y, cellM (den q q.length) x y ≠ 0 → y = B ∧ (x = A ∨ x = A + 2) := fun x y h => lk10 (by rw [← hd]; exact h)
 rcases b.cells k.good with ⟨e, -⟩ | ⟨-, hc, ⟨x1, y1, a1, rfl⟩, ⟨x2, y2, a2, e2⟩, ⟨x3, y3, a3, rfl⟩, ⟨x4, y4, a4, e4⟩⟩
 ·subst e; exact absurd c1 (by rw [hd] at c1 ⊢; exact fun _ => by have := (k.den A B).symm.trans (show cellM (den ([] : List Nd) 0) A B = 0 by unfold cellM; rfl); rw [this] at c1; cases c1)
 ·have b1 := hc A B (by rw [c1]; omega)
  have b2 := hc (A + 2) B (by rw [c2]; omega)
  have k1 := only _ _ a1
  have k2 := only _ _ a2
  have k3 := only _ _ a3
  have k4 := only _ _ a4
  omega
theorem pics10 {A B : Int} (h : P10 A B) {q : List Nd} (k : QuadOf (c10 A B) q) : rowsM (picM (den q q.length) A B) 3 1 = rows10 := by
 have e : picM (den q q.length) A B = fun r c => lk (c10 A B) (A + c) (B + r) := by
  funext r c
  exact k.den _ _
 rw [e]
 clear e k
 rcases h with ⟨rfl, rfl⟩ | ⟨rfl, rfl⟩
 ·show rowsM (fun r c => lk (c10 2 3) (2 + c) (3 + r)) 3 1 = rows10
  kernel_rfl
 ·show rowsM (fun r c => lk (c10 0 0) (0 + c) (0 + r)) 3 1 = rows10
  kernel_rfl
theorem go10 {A B most er X Y : Int} {L : List (List UInt8)} {q : List Nd} {n : Nat} (h : P10 A B) (k : QuadOf (c10 A B) q) (hn : q.length = n) (hm : 0 ≤ most ∧ most ≤ 1000) (g : GoI q n most er X Y L) :
  (most < 3 → er = 4) ∧ (3 ≤ most → er = 0 ∧ X = A ∧ Y = B ∧ L = rows10) := by
 subst hn
 rcases g with ⟨h0, -⟩ | ⟨-, ok, X', Y', V, H, b, h1⟩
 ·omega
 ·obtain ⟨rfl, rfl, rfl, rfl⟩ := box10 k b
  rcases h1 with ⟨h2, rfl, -⟩ | ⟨h2, rfl, rfl, rfl, rfl⟩
  ·exact ⟨fun _ => rfl, fun _ => by omega⟩
  ·exact ⟨fun _ => by omega, fun _ => ⟨rfl, rfl, rfl, pics10 h k⟩⟩
theorem right10 {W : World} {u : Gr} {X Y : Int} (h : u.R W X Y) (e : u.L = rows10) : rightG u = true := by
 unfold rightG
 rw [canon_right9 h.x.cn, canon_right9 h.y.cn, e]
 kernel_rfl
theorem gq10 {u : Gr} {A B er : Int} {q : List Nd} (hp : P10 A B) (hr : rightG u = true) (hx : ival u.x.s u.x.xs = A) (hy : ival u.y.s u.y.xs = B) (e : u.L = rows10) (g : GqI u er q) : er = 0 ∧ QuadOf (c10 A B) q := by
 have e1 : gridL u = c10 A B := by
  unfold gridL; rw [hx, hy, e, pic10 hp]
 have k := (g.2 hr).2
 rw [e1] at k
 exact k (least10 hp)
theorem gh10 {q p : List Nd} {n : Nat} {er : Int} (k : QuadOf (c10 2 3) q) (hn : q.length = n) (g : GhI q n 5 er p) : er = 0 ∧ QuadOf (c10 0 0) p := by
 obtain ⟨e1, X, Y, L, g1, h⟩ := g
 obtain ⟨rfl, -, -, rfl⟩ := (go10 (.inl ⟨rfl, rfl⟩) k hn (by omega) g1).2 (by omega)
 rcases h with ⟨h, -⟩ | ⟨-, h⟩
 ·exact absurd rfl h
 ·exact gq10 (.inr ⟨rfl, rfl⟩) (u := at0 rows10) (by kernel_rfl) rfl rfl rfl h
theorem bad10_right {A : Option Addr} {c : Nat} : rightG ⟨bw0, bw0, A, c, bad10⟩ = false := by
 unfold rightG
 rw [show rowsB bad10 = false by kernel_rfl, Bool.and_false, Bool.and_false]
theorem few10 (X Y : Int) : (picL (picS rows10) X Y (wideG rows10) rows10.length).length ≤ 600 := Nat.le_trans (picL_len _ _ _ _ _) (by decide)
theorem few10b (X Y : Int) : (picL (picS bad10) X Y (wideG bad10) bad10.length).length ≤ 600 := Nat.le_trans (picL_len _ _ _ _ _) (by decide)
theorem bad10_ts (W : World) (o : Obj) : Ts ((W.alloc o).alloc (.cells #[.string ⟨#[]⟩, .string ⟨#[120]⟩] 9)) (some ⟨W.heap.size + 1, 0, none⟩) 2 bad10 := by
 have h := heap_alloc_new (W.alloc o) (.cells #[.string ⟨#[]⟩, .string ⟨#[120]⟩] 9)
 rw [World.size_alloc] at h
 exact ts_lit (L := bad10) h (by decide) (by decide)
theorem near10 {n : Int} (h : -8 ≤ n ∧ n < 8) : -p2 1330 ≤ n ∧ n ≤ p2 1330 := near9 h
theorem alive10_any (w : World) : Calls Tryz.prog 11 #[] w fun e w' => e = .returned (.bool true) ∧ Below w.heap.size w w' := by
 have q0 : True := trivial
 go_enter Tryz.func11, Tryz.ntmps11
 go_wp2_with (first
  | (have _t := q0; go_at_call 27; clear _t; go_loud (refine (rbof_any 2 _ (by omega) (by omega)).mono ?_; rintro e w1 h_; obtain ⟨a, rfl, r_, b_⟩ := retI_bw h_; have la := bw_len r_ (near10 (by omega)).1 (near10 (by omega)).2; have Ra := Lib.hid r_; have B1 := Lib.hid b_; clear h_ r_ b_; have q1 := q0; clear q0))
  | (have _t := q1; go_at_call 27; clear _t; go_loud (refine (rbof_any 3 _ (by omega) (by omega)).mono ?_; rintro e w2 h_; obtain ⟨b, rfl, r_, b_⟩ := retI_bw h_; have lb := bw_len r_ (near10 (by omega)).1 (near10 (by omega)).2; have hal := (Below.refl w2.heap.size w2).alloc (Nat.le_refl _) (.cells #[.string ⟨#[1, 0, 1]⟩] 9); have TT := ts_lit (L := rows10) (g := w2.heap.size) (W := w2.alloc (.cells #[.string ⟨#[1, 0, 1]⟩] 9)) (heap_alloc_new w2 _) (by decide) (by decide); have SS := Lib.hid (Sx.box (((((Sx.start w).next B1.out).next b_).next hal).addG (u := (Gr.mk a b (some ⟨w2.heap.size, 0, none⟩) 1 rows10)) (X := 2) (Y := 3) ⟨(Ra.out.next b_).next hal, r_.next hal, TT⟩) (.cells #[.bool a.s, .slice a.a a.xs.length a.c, .bool b.s, .slice b.a b.xs.length b.c, .slice (some ⟨w2.heap.size, 0, none⟩) 1 1] 34)); rw [World.size_alloc] at SS; clear h_ r_ b_ hal TT; obtain ⟨g0, g1, g2, g3, g4⟩ := Gr.cells (u := (Gr.mk a b (some ⟨w2.heap.size, 0, none⟩) 1 rows10)) (SS.out.bx 0 _ _ rfl); dsimp only at g0 g1 g2 g3; have g4 := show World.cell? _ _ = some (.slice (some ⟨w2.heap.size, 0, none⟩) 1 1) from g4; have q2 := q1; clear q1))
  | (have _t := q2; go_at_call 20; clear _t; go_loud (refine (gquad_any (Gr.mk a b (some ⟨w2.heap.size, 0, none⟩) 1 rows10) _ (SS.out.gs 0 _ _ _ rfl).u la lb (fun _ => few10 0 0)).mono ?_; rintro e w3 ⟨A3, c3, n, q, er, rfl, l_, n_, -, b_, g_⟩; have QQ := gq10 (.inl ⟨rfl, rfl⟩) (right10 (SS.out.gs 0 _ _ _ rfl) rfl) Ra.out.v (SS.out.gs 0 _ _ _ rfl).y.v rfl g_; obtain ⟨rfl, qq_⟩ := QQ; have LQ := Lib.hid (show q.length = n ∧ n ≤ 900000 from ⟨l_, l_ ▸ len10 (.inl ⟨rfl, rfl⟩) qq_⟩); have QQ := Lib.hid qq_; have SS := Lib.hid (((SS.out.next b_).addQ n_).box (.cells #[.slice A3 n c3] 26)); clear l_ n_ b_ g_ qq_; clear g0 g1 g2 g3 g4; obtain ⟨g0, g1, g2, g3, g4⟩ := Gr.cells (u := (Gr.mk a b (some ⟨w2.heap.size, 0, none⟩) 1 rows10)) (SS.out.bx 0 _ _ rfl); dsimp only at g0 g1 g2 g3; have g4 := show World.cell? _ _ = some (.slice (some ⟨w2.heap.size, 0, none⟩) 1 1) from g4; have q0 := one_cell (SS.out.bx 1 _ _ rfl); have q3 := q2; clear q2))
  | (have _t := q3; go_at_call 13; clear _t; go_loud (refine (gof_any A3 c3 n q 3 _ (SS.out.qs 0 _ _ _ rfl) LQ.out.1 LQ.out.2 QQ.out.good (by omega)).mono ?_; rintro e w4 ⟨u, X, Y, er, rfl, r_, lu, -, b_, g_⟩; obtain ⟨rfl, rfl, rfl, lh⟩ := (go10 (.inl ⟨rfl, rfl⟩) QQ.out LQ.out.1 (by omega) g_).2 (by omega); have LH := Lib.hid lh; have SS := Lib.hid (((SS.out.next b_).addG r_).box u.obj); clear r_ b_ g_ lh; clear g0 g1 g2 g3 g4 q0; obtain ⟨g0, g1, g2, g3, g4⟩ := Gr.cells (u := (Gr.mk a b (some ⟨w2.heap.size, 0, none⟩) 1 rows10)) (SS.out.bx 0 _ _ rfl); dsimp only at g0 g1 g2 g3; have g4 := show World.cell? _ _ = some (.slice (some ⟨w2.heap.size, 0, none⟩) 1 1) from g4; have q0 := one_cell (SS.out.bx 1 _ _ rfl); have q4 := q3; clear q3))
  | (have _t := q4; go_at_call 13; clear _t; go_loud (refine (gof_any A3 c3 n q 2 _ (SS.out.qs 0 _ _ _ rfl) LQ.out.1 LQ.out.2 QQ.out.good (by omega)).mono ?_; rintro e w5 ⟨u5, X5, Y5, er, rfl, r_, -, -, b_, g_⟩; obtain rfl := (go10 (.inl ⟨rfl, rfl⟩) QQ.out LQ.out.1 (by omega) g_).1 (by omega); have SS := Lib.hid ((SS.out.next b_).box u5.obj); clear r_ b_ g_; clear g0 g1 g2 g3 g4 q0; obtain ⟨g0, g1, g2, g3, g4⟩ := Gr.cells (u := (Gr.mk a b (some ⟨w2.heap.size, 0, none⟩) 1 rows10)) (SS.out.bx 0 _ _ rfl); dsimp only at g0 g1 g2 g3; have g4 := show World.cell? _ _ = some (.slice (some ⟨w2.heap.size, 0, none⟩) 1 1) from g4; have q0 := one_cell (SS.out.bx 1 _ _ rfl); have q5 := q4; clear q4))
  | (have _t := q5; go_at_call 15; clear _t; go_loud (refine (ghome_any A3 c3 n q 5 _ (SS.out.qs 0 _ _ _ rfl) LQ.out.1 LQ.out.2 QQ.out.good (by omega) (fun er X Y L k => by rw [((go10 (.inl ⟨rfl, rfl⟩) QQ.out LQ.out.1 (by omega) k).2 (by omega)).2.2.2]; exact few10 0 0)).mono ?_; rintro e w6 ⟨A6, c6, m, p, er, rfl, l_, n_, -, b_, g_⟩; obtain ⟨rfl, qq_⟩ := gh10 QQ.out LQ.out.1 g_; have LP := Lib.hid (show p.length = m ∧ m ≤ 900000 from ⟨l_, l_ ▸ len10 (.inr ⟨rfl, rfl⟩) qq_⟩); have QP := Lib.hid qq_; have SS := Lib.hid (((SS.out.next b_).addQ n_).box (.cells #[.slice A6 m c6] 26)); clear l_ n_ b_ g_ qq_; clear g0 g1 g2 g3 g4 q0; have z0 := one_cell (SS.out.bx 4 _ _ rfl); have q6 := q5; clear q5))
  | (have _t := q6; go_at_call 13; clear _t; go_loud (refine (gof_any A6 c6 m p 5 _ (SS.out.qs 1 _ _ _ rfl) LP.out.1 LP.out.2 QP.out.good (by omega)).mono ?_; rintro e w7 ⟨v, X, Y, er, rfl, r_, lv, -, b_, g_⟩; obtain ⟨rfl, rfl, rfl, lh⟩ := (go10 (.inr ⟨rfl, rfl⟩) QP.out LP.out.1 (by omega) g_).2 (by omega); have LV := Lib.hid lh; have SS := Lib.hid (((SS.out.next b_).addG r_).box v.obj); clear r_ b_ g_ lh; clear z0; have TB := Lib.hid (bad10_ts w7 v.obj); have q7 := q6; clear q6))
  | (have _t := q7; go_at_call 20; clear _t; go_loud (refine (gquad_any (Gr.mk bw0 bw0 (some ⟨w7.heap.size + 1, 0, none⟩) 2 bad10) ((w7.alloc v.obj).alloc (.cells #[.string ⟨#[]⟩, .string ⟨#[120]⟩] 9)) ⟨Us.nil _, Us.nil _, TB.out⟩ (Nat.zero_le _) (Nat.zero_le _) (fun _ => few10b 0 0)).mono ?_; rintro e w8 ⟨A8, c8, n8, q8, er, rfl, -, -, -, b_, g_⟩; obtain ⟨rfl, rfl⟩ := g_.1 bad10_right; have SS := Lib.hid (((SS.out.box (.cells #[.string ⟨#[]⟩, .string ⟨#[120]⟩] 9)).next b_).box (.cells #[.slice A8 n8 c8] 26)); clear b_ g_; obtain ⟨g0, g1, g2, g3, g4⟩ := Gr.cells (u := (Gr.mk a b (some ⟨w2.heap.size, 0, none⟩) 1 rows10)) (SS.out.bx 0 _ _ rfl); dsimp only at g0 g1 g2 g3; have g4 := show World.cell? _ _ = some (.slice (some ⟨w2.heap.size, 0, none⟩) 1 1) from g4; obtain ⟨h0, h1, h2, h3, h4⟩ := Gr.cells (SS.out.bx 2 _ _ rfl); obtain ⟨k0, k1, k2, k3, k4⟩ := Gr.cells (SS.out.bx 5 _ _ rfl); have q8 := q7; clear q7))
  | (have _t := q8; go_at_call 17; clear _t; go_loud (refine (rgsame_any (Gr.mk a b (some ⟨w2.heap.size, 0, none⟩) 1 rows10) u _ (SS.out.gs 0 _ _ _ rfl).u (SS.out.gs 1 _ _ _ rfl).u (show a.xs.length ≤ 50000 by omega) (show b.xs.length ≤ 50000 by omega)).mono ?_; rintro e w9 ⟨rfl, b_⟩; rw [sameG_yes (SS.out.gs 0 _ _ _ rfl) (SS.out.gs 1 _ _ _ rfl) LH.out.symm]; have SS := Lib.hid (SS.out.next b_); clear b_; clear g0 g1 g2 g3 g4 h0 h1 h2 h3 h4 k0 k1 k2 k3 k4; obtain ⟨g0, g1, g2, g3, g4⟩ := Gr.cells (u := (Gr.mk a b (some ⟨w2.heap.size, 0, none⟩) 1 rows10)) (SS.out.bx 0 _ _ rfl); dsimp only at g0 g1 g2 g3; have g4 := show World.cell? _ _ = some (.slice (some ⟨w2.heap.size, 0, none⟩) 1 1) from g4; obtain ⟨h0, h1, h2, h3, h4⟩ := Gr.cells (SS.out.bx 2 _ _ rfl); obtain ⟨k0, k1, k2, k3, k4⟩ := Gr.cells (SS.out.bx 5 _ _ rfl); have q9 := q8; clear q8))
  | (have _t := q9; go_at_call 17; clear _t; go_loud (refine (rgsame_any v (Gr.mk bw0 bw0 (some ⟨w2.heap.size, 0, none⟩) 1 rows10) _ (SS.out.gs 2 _ _ _ rfl).u (at0_u (SS.out.gs 0 _ _ _ rfl).t) lv.1 lv.2).mono ?_; rintro e w10 ⟨rfl, b_⟩; rw [sameG_yes (v := (Gr.mk bw0 bw0 (some ⟨w2.heap.size, 0, none⟩) 1 rows10)) (SS.out.gs 2 _ _ _ rfl) ⟨bw0_r _, bw0_r _, (SS.out.gs 0 _ _ _ rfl).t⟩ LV.out]; have SS := Lib.hid (SS.out.next b_); clear b_; clear g0 g1 g2 g3 g4 h0 h1 h2 h3 h4 k0 k1 k2 k3 k4; obtain ⟨g0, g1, g2, g3, g4⟩ := Gr.cells (u := (Gr.mk a b (some ⟨w2.heap.size, 0, none⟩) 1 rows10)) (SS.out.bx 0 _ _ rfl); dsimp only at g0 g1 g2 g3; have g4 := show World.cell? _ _ = some (.slice (some ⟨w2.heap.size, 0, none⟩) 1 1) from g4; obtain ⟨h0, h1, h2, h3, h4⟩ := Gr.cells (SS.out.bx 2 _ _ rfl); obtain ⟨k0, k1, k2, k3, k4⟩ := Gr.cells (SS.out.bx 5 _ _ rfl); have q10 := q9; clear q9))
  | (have _t := q10; go_at_call 22; clear _t; go_loud (refine (gright_any (Gr.mk a b (some ⟨w2.heap.size, 0, none⟩) 1 rows10) _ (SS.out.gs 0 _ _ _ rfl).u (show a.xs.length ≤ 60000 by omega) (show b.xs.length ≤ 60000 by omega)).mono ?_; rintro e w11 ⟨rfl, b_⟩; rw [right10 (SS.out.gs 0 _ _ _ rfl) rfl]; have SS := Lib.hid (SS.out.next b_); clear b_; clear g0 g1 g2 g3 g4 h0 h1 h2 h3 h4 k0 k1 k2 k3 k4; obtain ⟨g0, g1, g2, g3, g4⟩ := Gr.cells (u := (Gr.mk a b (some ⟨w2.heap.size, 0, none⟩) 1 rows10)) (SS.out.bx 0 _ _ rfl); dsimp only at g0 g1 g2 g3; have g4 := show World.cell? _ _ = some (.slice (some ⟨w2.heap.size, 0, none⟩) 1 1) from g4; obtain ⟨h0, h1, h2, h3, h4⟩ := Gr.cells (SS.out.bx 2 _ _ rfl); obtain ⟨k0, k1, k2, k3, k4⟩ := Gr.cells (SS.out.bx 5 _ _ rfl); have q11 := q10; clear q10))
  | (have _t := q11; go_at_call 24; clear _t; go_loud (refine (gsame_any (Gr.mk a b (some ⟨w2.heap.size, 0, none⟩) 1 rows10) (Gr.mk a b (some ⟨w2.heap.size, 0, none⟩) 1 rows10) _ (SS.out.gs 0 _ _ _ rfl).u (SS.out.gs 0 _ _ _ rfl).u (show a.xs.length ≤ 50000 by omega) (show b.xs.length ≤ 50000 by omega)).mono ?_; rintro e w12 ⟨rfl, b_⟩; rw [sameG_yes (SS.out.gs 0 _ _ _ rfl) (SS.out.gs 0 _ _ _ rfl) rfl]; have SS := Lib.hid (SS.out.next b_); clear b_; clear g0 g1 g2 g3 g4 h0 h1 h2 h3 h4 k0 k1 k2 k3 k4; obtain ⟨g0, g1, g2, g3, g4⟩ := Gr.cells (u := (Gr.mk a b (some ⟨w2.heap.size, 0, none⟩) 1 rows10)) (SS.out.bx 0 _ _ rfl); dsimp only at g0 g1 g2 g3; have g4 := show World.cell? _ _ = some (.slice (some ⟨w2.heap.size, 0, none⟩) 1 1) from g4; obtain ⟨h0, h1, h2, h3, h4⟩ := Gr.cells (SS.out.bx 2 _ _ rfl); obtain ⟨k0, k1, k2, k3, k4⟩ := Gr.cells (SS.out.bx 5 _ _ rfl); have q12 := q11; clear q11))
  | (have _t := q12; go_at_call 24; clear _t; go_loud (refine (gsame_any (Gr.mk a b (some ⟨w2.heap.size, 0, none⟩) 1 rows10) v _ (SS.out.gs 0 _ _ _ rfl).u (SS.out.gs 2 _ _ _ rfl).u (show a.xs.length ≤ 50000 by omega) (show b.xs.length ≤ 50000 by omega)).mono ?_; rintro e w13 ⟨rfl, b_⟩; rw [sameG_no (SS.out.gs 0 _ _ _ rfl) (SS.out.gs 2 _ _ _ rfl) (by omega)]; have SS := Lib.hid (SS.out.next b_); clear b_; clear g0 g1 g2 g3 g4 h0 h1 h2 h3 h4 k0 k1 k2 k3 k4; obtain ⟨g0, g1, g2, g3, g4⟩ := Gr.cells (u := (Gr.mk a b (some ⟨w2.heap.size, 0, none⟩) 1 rows10)) (SS.out.bx 0 _ _ rfl); dsimp only at g0 g1 g2 g3; have g4 := show World.cell? _ _ = some (.slice (some ⟨w2.heap.size, 0, none⟩) 1 1) from g4; obtain ⟨h0, h1, h2, h3, h4⟩ := Gr.cells (SS.out.bx 2 _ _ rfl); obtain ⟨k0, k1, k2, k3, k4⟩ := Gr.cells (SS.out.bx 5 _ _ rfl); have q13 := q12; clear q12)))
 go_ret
 exact ⟨rfl, SS.out.b⟩
def BoxP (q : List Nd) (X Y : Int) (wide high : Nat) : Prop :=
 (q = [] ∧ X = 0 ∧ Y = 0 ∧ wide = 0 ∧ high = 0) ∨ (0 < wide ∧ 0 < high ∧ ∃ k, BoxT (den q q.length) k X Y wide high ∧ (den q q.length).lv.toNat = k)
theorem BxV.boxp {q : List Nd} (hg : GoodL q) {ok : Bool} {X Y V H : Int} (b : BxV q q.length ok X Y V H) : BoxP q X Y V.toNat H.toNat ∧ 0 ≤ V ∧ 0 ≤ H := by
 rcases b with ⟨h0, -, rfl, rfl, rfl, rfl⟩ | ⟨h0, rfl, h1⟩
 ·exact ⟨.inl ⟨List.length_eq_zero_iff.1 h0, rfl, rfl, rfl, rfl⟩, Int.le_refl _, Int.le_refl _⟩
 ·have hlv := fit_lv (loose_fit hg.1 (i := q.length - 1) (by omega))
  obtain ⟨m, hm⟩ : ∃ m : Nat, (at_ q (q.length - 1)).lv = (m : Int) + 1 := ⟨(at_ q (q.length - 1)).lv.toNat - 1, by omega⟩
  have hw := wf_den hg.1 (q.length - 1) (by omega)
  rw [Nat.sub_add_cancel (by omega), hm] at hw; have hne := (hg.2 (q.length - 1) (by omega)).1
  rw [Nat.sub_add_cancel (by omega)] at hne; have hn : (den q q.length).lv.toNat = (at_ q (q.length - 1)).lv.toNat := by rw [wf_lvS hw hne, hm]
  obtain ⟨⟨x1, y1, a1, -⟩, -⟩ := h1.touch hn
  have hc := h1.cell hn a1
  refine ⟨.inr ⟨by omega, by omega, _, ?_, hn⟩, by omega, by omega⟩
  rw [Int.toNat_of_nonneg (by omega), Int.toNat_of_nonneg (by omega)]; exact h1
theorem GoI.back {q : List Nd} {n : Nat} {er X Y : Int} {R : List (List UInt8)} (hg : GoodL q) (hn : q.length = n) (g : GoI q n 40 er X Y R) :
  (er = 4 ∧ R = []) ∨ (er = 0 ∧ ∃ wide high : Nat, wide ≤ 40 ∧ high ≤ 40 ∧ BoxP q X Y wide high ∧ R = rowsM (picM (den q q.length) X Y) wide high) := by
 subst hn
 rcases g with ⟨h0, -⟩ | ⟨-, ok, X', Y', V, H, b, h1⟩
 ·omega
 ·obtain ⟨hb, h2, h3⟩ := b.boxp hg
  rcases h1 with ⟨-, rfl, -, -, rfl⟩ | ⟨h4, rfl, rfl, rfl, rfl⟩
  ·exact .inl ⟨rfl, rfl⟩
  ·exact .inr ⟨rfl, _, _, by omega, by omega, hb, rfl⟩
theorem tat_rowsM (M : Int → Int → Int) {k wide high : Nat} (hk : k < high) : tat (rowsM M wide high) k = strM M k wide := by
 unfold tat
 rw [rowsM_at M hk]
 rfl
theorem wide_rowsM (M : Int → Int → Int) {wide high : Nat} (h : high = 0 → wide = 0) : wideG (rowsM M wide high) = wide := by
 unfold wideG
 by_cases h0 : high = 0
 ·rw [h h0, h0]
  rfl
 ·rw [tat_rowsM M (by omega), strM_len]
theorem right_rowsM (M : Int → Int → Int) {wide high : Nat} (h : high = 0 → wide = 0) (h1 : wide ≤ 1000) (h2 : high ≤ 1000) : rowsB (rowsM M wide high) = true :=
 rows_yes (by rw [wide_rowsM M h]; exact h1) (by rw [rowsM_len]; exact h2) fun i hi => by
  rw [rowsM_len] at hi; rw [tat_rowsM M hi, strM_len, wide_rowsM M h]
theorem BoxP.flat {q : List Nd} {X Y : Int} {wide high : Nat} (b : BoxP q X Y wide high) : high = 0 → wide = 0 := fun h => by
 rcases b with ⟨-, -, -, h1, -⟩ | ⟨-, h1, -⟩
 ·exact h1
 ·omega
theorem BoxP.list {L : List Cl} {q : List Nd} {X Y : Int} {wide high : Nat} (hq : QuadOf (lastF L) q) (b : BoxP q X Y wide high) :
  picL (picS (rowsM (picM (den q q.length) X Y) wide high)) X Y wide high = lastF L := by
 rcases b with ⟨rfl, rfl, rfl, rfl, rfl⟩ | ⟨-, -, k, a, hk⟩
 ·exact hq.cells (lastF_srt L) fun c hc => ((lastF_spec L).2.2 c hc).1
 ·exact grid_cells hq a hk
theorem home_least (M : Int → Int → Int) {wide high : Nat} (hw : wide ≤ 40) (hh : high ≤ 40) : leastF (picL M 0 0 wide high) ≤ 1329 := by
 refine Nat.le_trans (least_le (k := 7) (by omega) fun c hc => ?_) (by omega)
 obtain ⟨k, i, h1, h2, -, rfl⟩ := picL_mem.1 hc
 unfold inL
 rw [show p2 (7 - 1) = 64 from rfl]
 unfold inH
 simp only [Bool.and_eq_true, decide_eq_true_iff]
 omega
theorem home_rows {L : List Cl} {q h : List Nd} {X Y x y er : Int} {wide high m : Nat} {R : List (List UInt8)} (hq : QuadOf (lastF L) q) (b : BoxP q X Y wide high) (hw : wide ≤ 40) (hh : high ≤ 40)
  (hp : QuadOf (picL (picS (rowsM (picM (den q q.length) X Y) wide high)) 0 0 wide high) h) (hm : h.length = m) (g : GoI h m 40 er x y R) : er = 0 ∧ R = rowsM (picM (den q q.length) X Y) wide high := by
 rcases b with ⟨rfl, rfl, rfl, rfl, rfl⟩ | ⟨w0, h0, k, a, hk⟩
 ·have e : h = [] := quadOf_one hp (show QuadOf (picL (picS (rowsM (picM (den ([] : List Nd) ([] : List Nd).length) 0 0) 0 0)) 0 0 0 0) [] from by
   have := hq
   rw [show lastF L = [] from (hq.cells (lastF_srt L) fun c hc => ((lastF_spec L).2.2 c hc).1).symm] at this
   exact this) fun _ _ => rfl
  subst e; subst hm; rcases g with ⟨h9, -⟩ | ⟨-, ok, X', Y', V, H, b, h1⟩
  ·omega
  ·rcases b with ⟨-, -, rfl, rfl, rfl, rfl⟩ | ⟨h2, -⟩
   ·rcases h1 with ⟨h3, -⟩ | ⟨-, rfl, -, -, rfl⟩
    ·omega
    ·exact ⟨rfl, rfl⟩
   ·exact absurd h2 (Nat.lt_irrefl 0)
 ·subst hm; rcases g with ⟨h9, -⟩ | ⟨-, ok, X', Y', V, H, b, h1⟩
  ·omega
  ·have hp' := hp
   rw [← picL_last] at hp'; obtain ⟨hb, v0, h00⟩ := b.boxp hp.good
   rcases hb with ⟨rfl, -⟩ | ⟨-, -, k2, a2, hk2⟩
   ·exfalso
    obtain ⟨⟨x1, y1, c1, -⟩, -⟩ := a.touch hk
    have c2 := hp.den (x1 - X) (y1 - Y)
    have c3 := (home_cell a hk (u := den ([] : List Nd) ([] : List Nd).length) (fun x y => by rw [hp.den, picL_rowsM fun r c => pic_byte hq.good.1 X Y r c]) (x1 - X) (y1 - Y))
    rw [show X + (x1 - X) = x1 by omega, show Y + (y1 - Y) = y1 by omega] at c3; exact c1 (c3.symm.trans rfl)
   ·obtain ⟨e1, e2, e3, e4, e5⟩ := home_grid hq.good.1 a hk hp' a2 hk2
    subst e1; subst e2; rcases h1 with ⟨h3, -⟩ | ⟨-, rfl, -, -, rfl⟩
    ·omega
    ·refine ⟨rfl, ?_⟩
     rw [e5, show V.toNat = wide by omega, show H.toNat = high by omega]
theorem BxV.hi {q : List Nd} (hg : GoodL q) {ok : Bool} {X Y V H : Int} (b : BxV q q.length ok X Y V H) : (-p2 1330 ≤ X ∧ X ≤ p2 1330) ∧ (-p2 1330 ≤ Y ∧ Y ≤ p2 1330) := by
 have m1 := p2_pos 1330
 rcases b with ⟨-, -, h1, h2, h3, h4⟩ | ⟨h0, -, h1⟩
 ·omega
 ·have hlv := fit_lv (loose_fit hg.1 (i := q.length - 1) (by omega))
  obtain ⟨m, hm⟩ : ∃ m : Nat, (at_ q (q.length - 1)).lv = (m : Int) + 1 := ⟨(at_ q (q.length - 1)).lv.toNat - 1, by omega⟩
  have hw := wf_den hg.1 (q.length - 1) (by omega)
  rw [Nat.sub_add_cancel (by omega), hm] at hw; have e1 : (at_ q (q.length - 1)).lv.toNat = m + 1 := by omega
  rw [e1] at h1; have hw2 : ∀ t, (fun u => u = den q q.length) t → wfT ((m + 1 : Nat) : Int) t := fun t ht => by have ht' : t = den q q.length := ht; rw [ht']; exact hw
  have a1 := h1.west.in_ hw2
  have a3 := h1.north.in_ hw2
  have m2 := p2_mono (show m + 1 ≤ 1330 by omega)
  rw [Nat.add_sub_cancel] at a1 a3; have m3 := p2_succ m
  have m4 := p2_pos m
  omega
theorem GoI.hi {q : List Nd} {n : Nat} {most er X Y : Int} {R : List (List UInt8)} (hg : GoodL q) (hn : q.length = n) (g : GoI q n most er X Y R) : (-p2 1330 ≤ X ∧ X ≤ p2 1330) ∧ (-p2 1330 ≤ Y ∧ Y ≤ p2 1330) := by
 subst hn
 have m1 := p2_pos 1330
 rcases g with ⟨-, -, h1, h2, -⟩ | ⟨-, ok, X', Y', V, H, b, h1⟩
 ·omega
 ·have := b.hi hg
  rcases h1 with ⟨-, -, h1, h2, -⟩ | ⟨-, -, h1, h2, -⟩ <;> omega
structure Gk (l : List Cl) (q : List Nd) (n : Nat) (u : Gr) (X Y : Int) (wide high : Nat) : Prop where
 hq : QuadOf (lastF l) q
 hn : q.length = n
 gi : GoI q n 40 0 X Y u.L
 w : wide ≤ 40
 h : high ≤ 40
 b : BoxP q X Y wide high
 r : u.L = rowsM (picM (den q q.length) X Y) wide high
 few : (lastF l).length ≤ 20
 lst : leastF (lastF l) ≤ 1329
theorem Gk.len {l : List Cl} {q : List Nd} {n : Nat} {u : Gr} {X Y : Int} {wide high : Nat} (k : Gk l q n u X Y wide high) : u.L.length = high := by rw [k.r, rowsM_len]
theorem Gk.wide_ {l : List Cl} {q : List Nd} {n : Nat} {u : Gr} {X Y : Int} {wide high : Nat} (k : Gk l q n u X Y wide high) : wideG u.L = wide := by rw [k.r, wide_rowsM _ k.b.flat]
theorem Gk.row {l : List Cl} {q : List Nd} {n : Nat} {u : Gr} {X Y : Int} {wide high : Nat} (k : Gk l q n u X Y wide high) {i : Nat} (hi : i < high) : tat u.L i = strM (picM (den q q.length) X Y) i wide := by rw [k.r, tat_rowsM _ hi]
theorem Gk.list {l : List Cl} {q : List Nd} {n : Nat} {u : Gr} {X Y : Int} {wide high : Nat} (k : Gk l q n u X Y wide high) : picL (picS u.L) X Y (wideG u.L) u.L.length = lastF l := by
 rw [k.wide_, k.len, k.r]
 exact k.b.list k.hq
theorem Gk.few_ {l : List Cl} {q : List Nd} {n : Nat} {u : Gr} {X Y : Int} {wide high : Nat} (k : Gk l q n u X Y wide high) : (picL (picS u.L) 0 0 (wideG u.L) u.L.length).length ≤ 600 := by
 rw [picL_lens (picS u.L) 0 0 X Y, k.list]
 have := k.few
 omega
theorem Gk.right {W : World} {l : List Cl} {q : List Nd} {n : Nat} {u : Gr} {X Y : Int} {wide high : Nat} (k : Gk l q n u X Y wide high) (h : u.R W X Y) : rightG u = true := by
 unfold rightG
 rw [canon_right9 h.x.cn, canon_right9 h.y.cn, k.r, right_rowsM _ k.b.flat (by have := k.w; omega) (by have := k.h; omega)]
 rfl
theorem Gk.back {W : World} {l : List Cl} {q p : List Nd} {n : Nat} {u : Gr} {X Y er : Int} {wide high : Nat} (k : Gk l q n u X Y wide high) (h : u.R W X Y) (g : GqI u er p) : er = 0 ∧ q = p := by
 have e : gridL u = lastF l := by
  unfold gridL; rw [h.x.v, h.y.v, k.list]
 have g2 := (g.2 (k.right h)).2
 rw [e] at g2
 obtain ⟨e1, e2⟩ := g2 k.lst
 exact ⟨e1, quadOf_one k.hq e2 fun _ _ => rfl⟩
theorem right_at0 {L : List (List UInt8)} (h : rowsB L = true) : rightG (at0 L) = true := by
 unfold rightG at0
 rw [h]
 rfl
theorem Gk.home {l : List Cl} {q h : List Nd} {n : Nat} {u : Gr} {X Y er : Int} {wide high : Nat} (k : Gk l q n u X Y wide high) (g : GhI q n 40 er h) : er = 0 ∧ QuadOf (picL (picS u.L) 0 0 (wideG u.L) u.L.length) h := by
 obtain ⟨e1, X', Y', L', g1, g2⟩ := g
 obtain ⟨rfl, rfl, rfl, rfl⟩ := g1.one k.gi
 rcases g2 with ⟨h1, -⟩ | ⟨-, g2⟩
 ·exact absurd rfl h1
 ·have e : leastF (gridL (at0 u.L)) ≤ 1329 := home_least _ (by show wideG u.L ≤ 40; rw [k.wide_]; exact k.w) (by show u.L.length ≤ 40; rw [k.len]; exact k.h)
  exact (g2.2 (right_at0 (by rw [k.r]; exact right_rowsM _ k.b.flat (by have := k.w; omega) (by have := k.h; omega)))).2 e
theorem Gk.hlen {l : List Cl} {q h : List Nd} {n : Nat} {u : Gr} {X Y : Int} {wide high : Nat} (k : Gk l q n u X Y wide high) (g : QuadOf (picL (picS u.L) 0 0 (wideG u.L) u.L.length) h) : h.length ≤ 900000 := by
 rw [← picL_last] at g
 have h1 := g.lenF.2
 rw [picL_last, picL_lens (picS u.L) 0 0 X Y, k.list] at h1
 have := k.few
 omega
theorem Gk.again {l : List Cl} {q h : List Nd} {n m : Nat} {u : Gr} {X Y x y er : Int} {wide high : Nat} {L : List (List UInt8)} (k : Gk l q n u X Y wide high) (g : QuadOf (picL (picS u.L) 0 0 (wideG u.L) u.L.length) h) (hm : h.length = m) (i : GoI h m 40 er x y L) : er = 0 ∧ L = u.L := by
 have g' := g
 rw [k.wide_, k.len, k.r] at g'
 rw [k.r]
 exact home_rows k.hq k.b k.w k.h g' hm i
theorem Gk.twice {l : List Cl} {q h p : List Nd} {n m : Nat} {u : Gr} {X Y er : Int} {wide high : Nat} (k : Gk l q n u X Y wide high) (g : QuadOf (picL (picS u.L) 0 0 (wideG u.L) u.L.length) h) (hm : h.length = m) (i : GhI h m 40 er p) : er = 0 ∧ h = p := by
 obtain ⟨e1, X', Y', L', g1, g2⟩ := i
 obtain ⟨rfl, rfl⟩ := k.again g hm g1
 rcases g2 with ⟨h1, -⟩ | ⟨-, g2⟩
 ·exact absurd rfl h1
 ·have e : leastF (gridL (at0 u.L)) ≤ 1329 := home_least _ (by show wideG u.L ≤ 40; rw [k.wide_]; exact k.w) (by show u.L.length ≤ 40; rw [k.len]; exact k.h)
  obtain ⟨h1, h2⟩ := (g2.2 (right_at0 (by rw [k.r]; exact right_rowsM _ k.b.flat (by have := k.w; omega) (by have := k.h; omega)))).2 e
  exact ⟨h1, quadOf_one g h2 fun _ _ => rfl⟩
theorem gback_no
  (A : Option Addr) (c n : Nat) (l : List Cv) (w : World) (h : Cs w A c l) (hn : l.length = n) (hm : mayB l 20 = false) :
  Calls Tryz.prog 5 #[.slice A n c] w fun e w' => e = .returned (.bool true) ∧ Below w.heap.size w w' := by
 have HC := Lib.hid h
 have HN := Lib.hid hn
 have HM := Lib.hid hm
 have q0 : True := trivial
 clear h hn hm
 go_enter Tryz.func5, Tryz.ntmps5
 go_wp2_with (first
  | (have _t := q0; go_at_call 11; clear _t; go_loud (refine (alive10_any _).mono ?_; rintro e w1 ⟨rfl, b_⟩; have SS := Lib.hid ((Sx.start w).next b_); have HC := Lib.hid (HC.out.below b_); clear b_; have q1 := q0; clear q0))
  | (have _t := q1; go_at_call 12; clear _t; go_loud (refine (rquad_any A c n 20 l _ HC.out HN.out (by omega)).mono ?_; rintro e w2 ⟨A3, c3, qn, q, ok, rfl, l_, n_, -, b_, ok_, -, -⟩; rw [HM.out] at ok_; subst ok_; have SS := Lib.hid (SS.out.next b_); clear l_ n_ b_; have q2 := q1; clear q1)))
 go_ret
 exact ⟨rfl, SS.out.b.alloc SS.out.b.size _⟩
theorem gback_yes
  (A : Option Addr) (c n : Nat) (l : List Cv) (w : World) (h : Cs w A c l) (hn : l.length = n) (hm : mayB l 20 = true) :
  Calls Tryz.prog 5 #[.slice A n c] w fun e w' => e = .returned (.bool true) ∧ Below w.heap.size w w' := by
 have HC := Lib.hid h
 have HN := Lib.hid hn
 have HM := Lib.hid hm
 have q0 : True := trivial
 have HL := Lib.hid (may_iff.1 hm).2.2
 have HF := Lib.hid (show (lastF (l.map Cv.cl)).length ≤ 20 by
  have h1 := lastF_le (l.map Cv.cl)
  rw [List.length_map] at h1; have h2 := (may_R hm).1
  omega)
 clear h hn hm
 go_enter Tryz.func5, Tryz.ntmps5
 go_upto_if 29 with (first
  | (have _t := q0; go_at_call 11; clear _t; go_loud (refine (alive10_any _).mono ?_; rintro e w1 ⟨rfl, b_⟩; have SS := Lib.hid ((Sx.start w).next b_); have HC := Lib.hid (HC.out.below b_); clear b_; have q1 := q0; clear q0))
  | (have _t := q1; go_at_call 12; clear _t; go_loud (refine (rquad_any A c n 20 l _ HC.out HN.out (by omega)).mono ?_; rintro e w2 ⟨A3, c3, qn, q, ok, rfl, l_, n_, -, b_, ok_, -, hq_⟩; rw [HM.out] at ok_; subst ok_; have QQ := Lib.hid (hq_ rfl); have LQ := Lib.hid (show q.length = qn ∧ qn ≤ 900000 from ⟨l_, by have h1 := QQ.out.lenF.2; have h2 := HF.out; omega⟩); have HC := Lib.hid (HC.out.below (b_.trans ((Below.refl w2.heap.size w2).alloc (Nat.le_refl _) (.cells #[.slice A3 qn c3] 26) |>.mono b_.size))); have SS := Lib.hid (((SS.out.next b_).addQ n_).box (.cells #[.slice A3 qn c3] 26)); clear l_ n_ b_ hq_; have b0 := one_cell (SS.out.bx 0 _ _ rfl); have q2 := q1; clear q1))
  | (have _t := q2; go_at_call 13; clear _t; go_loud (refine (gof_any A3 c3 qn q 40 _ (SS.out.qs 0 _ _ _ rfl) LQ.out.1 LQ.out.2 QQ.out.good (by omega)).mono ?_; rintro e w3 ⟨u, X, Y, er, rfl, r_, -, -, b_, g_⟩; have GI := Lib.hid g_; have HC := Lib.hid (HC.out.below (b_.trans ((Below.refl w3.heap.size w3).alloc (Nat.le_refl _) u.obj |>.mono b_.size))); have GB := Lib.hid (GoI.back QQ.out.good LQ.out.1 g_); have lx := bw_len r_.x (GoI.hi QQ.out.good LQ.out.1 g_).1.1 (GoI.hi QQ.out.good LQ.out.1 g_).1.2; have ly := bw_len r_.y (GoI.hi QQ.out.good LQ.out.1 g_).2.1 (GoI.hi QQ.out.good LQ.out.1 g_).2.2; have SS := Lib.hid (((SS.out.next b_).addG r_).box u.obj); clear r_ b_ g_; clear b0; have b0 := one_cell (SS.out.bx 0 _ _ rfl); obtain ⟨g0, g1, g2, g3, g4⟩ := Gr.cells (SS.out.bx 1 _ _ rfl); have q3 := q2; clear q2)))
 rcases GB.out with ⟨rfl, hR⟩ | ⟨rfl, wide, high, hw, hh, hb, hR⟩
 ·have t1 : ((u.L.length : Int) == 0) = true := by rw [hR]; rfl
  clear hR; go_wp2_with fail
  go_ret
  exact ⟨rfl, SS.out.b⟩
 ·clear GB; have HK := Lib.hid (show Gk (l.map Cv.cl) q qn u X Y wide high from ⟨QQ.out, LQ.out.1, GI.out, hw, hh, hb, hR, HF.out, HL.out⟩)
  clear hw hh hb hR; go_wp2_with (first
   | (have _t := q3; go_at_call 20; clear _t; go_loud (refine (gquad_any u _ (SS.out.gs 0 _ _ _ rfl).u lx ly (fun _ => HK.out.few_)).mono ?_; rintro e w4 ⟨A4, c4, m4, p, er, rfl, l_, n_, -, b_, g_⟩; obtain ⟨rfl, e_⟩ := HK.out.back (SS.out.gs 0 _ _ _ rfl) g_; subst e_; have L4 := Lib.hid l_; have SS := Lib.hid (((SS.out.next b_).addQ n_).box (.cells #[.slice A4 m4 c4] 26)); clear l_ n_ b_ g_; clear b0 g0 g1 g2 g3 g4; have b0 := one_cell (SS.out.bx 0 _ _ rfl); obtain ⟨g0, g1, g2, g3, g4⟩ := Gr.cells (SS.out.bx 1 _ _ rfl); have p0 := one_cell (SS.out.bx 2 _ _ rfl); have q4 := q3; clear q3))
   | (have _t := q4; go_at_call 15; clear _t; go_loud (refine (ghome_any A3 c3 qn q 40 _ (SS.out.qs 0 _ _ _ rfl) LQ.out.1 LQ.out.2 QQ.out.good (by omega) (fun er X Y L k => by rw [(k.one HK.out.gi).2.2.2]; exact HK.out.few_)).mono ?_; rintro e w5 ⟨A5, c5, m5, hh, er, rfl, l_, n_, -, b_, g_⟩; obtain ⟨rfl, e_⟩ := HK.out.home g_; have QH := Lib.hid e_; have L5 := Lib.hid (show hh.length = m5 ∧ m5 ≤ 900000 from ⟨l_, l_ ▸ HK.out.hlen e_⟩); have SS := Lib.hid (((SS.out.next b_).addQ n_).box (.cells #[.slice A5 m5 c5] 26)); clear l_ n_ b_ g_ e_; clear b0 g0 g1 g2 g3 g4 p0; have b0 := one_cell (SS.out.bx 0 _ _ rfl); obtain ⟨g0, g1, g2, g3, g4⟩ := Gr.cells (SS.out.bx 1 _ _ rfl); have p0 := one_cell (SS.out.bx 2 _ _ rfl); have h0 := one_cell (SS.out.bx 3 _ _ rfl); have q5 := q4; clear q4))
   | (have _t := q5; go_at_call 15; clear _t; go_loud (refine (ghome_any A5 c5 m5 hh 40 _ (SS.out.qs 2 _ _ _ rfl) L5.out.1 L5.out.2 QH.out.good (by omega) (fun er X Y L k => by rw [(HK.out.again QH.out L5.out.1 k).2]; exact HK.out.few_)).mono ?_; rintro e w6 ⟨A6, c6, m6, kk, er, rfl, l_, n_, -, b_, g_⟩; obtain ⟨rfl, e_⟩ := HK.out.twice QH.out L5.out.1 g_; subst e_; have L6 := Lib.hid l_; have SS := Lib.hid (((SS.out.next b_).addQ n_).box (.cells #[.slice A6 m6 c6] 26)); clear l_ n_ b_ g_; clear b0 g0 g1 g2 g3 g4 p0 h0; have b0 := one_cell (SS.out.bx 0 _ _ rfl); obtain ⟨g0, g1, g2, g3, g4⟩ := Gr.cells (SS.out.bx 1 _ _ rfl); have p0 := one_cell (SS.out.bx 2 _ _ rfl); have h0 := one_cell (SS.out.bx 3 _ _ rfl); have k0 := one_cell (SS.out.bx 4 _ _ rfl); have q6 := q5; clear q5)))
  go_loopw [13] (fun z wr => ∃ k : Nat, z = .int .i64 k ∧ k ≤ u.L.length ∧ Below (w6.alloc (.cells #[.slice A6 m6 c6] 26)).heap.size (w6.alloc (.cells #[.slice A6 m6 c6] 26)) wr) (fun z _ => u.L.length - (intOf z).toNat)
  case atStart => exact ⟨0, rfl, Nat.zero_le _, Below.refl _ _⟩
  case round =>
   obtain ⟨k, rfl, hk, hb⟩ := hrel
   have SS := Lib.hid (SS.out.next hb)
   clear b0 g0 g1 g2 g3 g4 p0 h0 k0; have b0 := one_cell (SS.out.bx 0 _ _ rfl); obtain ⟨g0, g1, g2, g3, g4⟩ := Gr.cells (SS.out.bx 1 _ _ rfl); have p0 := one_cell (SS.out.bx 2 _ _ rfl); have h0 := one_cell (SS.out.bx 3 _ _ rfl); have k0 := one_cell (SS.out.bx 4 _ _ rfl)
   have hl9 : u.L.length ≤ 40 := by rw [HK.out.len]; exact HK.out.h
   have kw : IntKind.i64.wrap ((k : Int) + 1) = (k : Int) + 1 := IntWalk.i64_in _ (by omega)
   by_cases hlt : k < u.L.length
   ·obtain ⟨b2, o2, hA2, -, hcc⟩ := (SS.out.gs 0 _ _ _ rfl).t.at_ (by omega)
    rw [hA2] at g4; have s0 := hcc k hlt
    have s1 := hcc 0 (by omega)
    rw [Nat.add_zero] at s1; unfold strV at s0 s1; have z0 : (⟨(tat u.L k).toArray⟩ : ByteArray).size = wide := by rw [str_size, HK.out.row (by rw [← HK.out.len]; exact hlt), strM_len]
    have z1 : (⟨(tat u.L 0).toArray⟩ : ByteArray).size = wide := by rw [str_size, HK.out.row (by rw [← HK.out.len]; omega), strM_len]
    obtain ⟨s, hs⟩ : ∃ s : ByteArray, s = ⟨(tat u.L k).toArray⟩ := ⟨_, rfl⟩
    obtain ⟨s', hs'⟩ : ∃ s : ByteArray, s = ⟨(tat u.L 0).toArray⟩ := ⟨_, rfl⟩
    rw [← hs] at s0 z0; rw [← hs'] at s1 z1; have j1 : (k : Int) < (u.L.length : Int) := by omega
    have j0 : (0 : Int) ≤ (k : Int) := by omega
    have j2 : (0 : Int) < (u.L.length : Int) := by omega
    have j3 : decide ((k : Int) < (u.L.length : Int)) = true := decide_eq_true j1
    have u1 : ((s.size : Int) != (s'.size : Int)) = false := by rw [z0, z1]; exact bne_self_eq_false _
    have HJ := Lib.hid hlt; have HB := Lib.hid hb; clear hcc hs hs' hlt hb z0 z1 hA2; go_wp2_with fail
    go_quiet (fail)
    go_wp2_with fail
    go_roundw
    case rel => exact ⟨k + 1, by go_num, by have := HJ.out; omega, below_drewN HB.out nq⟩
    case measure => have := HJ.out; simp [intOf]; omega
   ·have t9 : decide ((k : Int) < (u.L.length : Int)) = false := decide_eq_false (by omega)
    have t10 : decide (k < u.L.length) = false := decide_eq_false hlt
    have t11 : (k < u.L.length) = False := eq_false hlt
    clear hb hlt; go_wp2_with (first
     | (have _t := q6; go_at_call 18; clear _t; go_loud (refine (rsame_any A4 A3 c4 c3 m4 qn q q _ (SS.out.qs 1 _ _ _ rfl) (SS.out.qs 0 _ _ _ rfl) L4.out LQ.out.1).mono ?_; rintro e w7 ⟨rfl, b_⟩; rw [decide_eq_true (rfl : q = q)]; have SS := Lib.hid (SS.out.next b_); clear b_; clear b0 g0 g1 g2 g3 g4 p0 h0 k0; have b0 := one_cell (SS.out.bx 0 _ _ rfl); obtain ⟨g0, g1, g2, g3, g4⟩ := Gr.cells (SS.out.bx 1 _ _ rfl); have p0 := one_cell (SS.out.bx 2 _ _ rfl); have h0 := one_cell (SS.out.bx 3 _ _ rfl); have k0 := one_cell (SS.out.bx 4 _ _ rfl); have q7 := q6; clear q6))
     | (have _t := q7; go_at_call 18; clear _t; go_loud (refine (rsame_any A6 A5 c6 c5 m6 m5 hh hh _ (SS.out.qs 3 _ _ _ rfl) (SS.out.qs 2 _ _ _ rfl) L6.out L5.out.1).mono ?_; rintro e w8 ⟨rfl, b_⟩; rw [decide_eq_true (rfl : hh = hh)]; have SS := Lib.hid (SS.out.next b_); clear b_; clear b0 g0 g1 g2 g3 g4 p0 h0 k0; have b0 := one_cell (SS.out.bx 0 _ _ rfl); obtain ⟨g0, g1, g2, g3, g4⟩ := Gr.cells (SS.out.bx 1 _ _ rfl); have p0 := one_cell (SS.out.bx 2 _ _ rfl); have h0 := one_cell (SS.out.bx 3 _ _ rfl); have k0 := one_cell (SS.out.bx 4 _ _ rfl); have q8 := q7; clear q7))
     | (have _t := q8; go_at_call 22; clear _t; go_loud (refine (gright_any u _ (SS.out.gs 0 _ _ _ rfl).u (by omega) (by omega)).mono ?_; rintro e w9 ⟨rfl, b_⟩; rw [HK.out.right (SS.out.gs 0 _ _ _ rfl)]; have SS := Lib.hid (SS.out.next b_); clear b_; clear b0 g0 g1 g2 g3 g4 p0 h0 k0; have b0 := one_cell (SS.out.bx 0 _ _ rfl); obtain ⟨g0, g1, g2, g3, g4⟩ := Gr.cells (SS.out.bx 1 _ _ rfl); have p0 := one_cell (SS.out.bx 2 _ _ rfl); have h0 := one_cell (SS.out.bx 3 _ _ rfl); have k0 := one_cell (SS.out.bx 4 _ _ rfl); have q9 := q8; clear q8)))
    go_ret
    exact ⟨rfl, SS.out.b⟩
theorem gback_law (A : Option Addr) (c : Nat) (l : List Cv) (w : World) (h : Cs w A c l) :
  Calls Tryz.prog 5 #[.slice A l.length c] w fun e w' => e = .returned (.bool true) ∧ Below w.heap.size w w' := by
 cases hm : mayB l 20 with
 | false => exact gback_no A c _ l w h rfl hm
 | true => exact gback_yes A c _ l w h rfl hm
end Go.Proofs.YtajgfmfopkggdaaGreat
