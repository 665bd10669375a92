/-
  BigBack holds of every input: the main way.
-/
import Derived.Test.YthkeehfoefjnfaaBigSums
import Derived.Test.YthkeehfoefjnfaaStates
namespace Go.Proofs.Ythkeehfoefjnfaa
set_option linter.unusedVariables false
set_option linter.unusedSimpArgs false
open Go.RowKit Num

theorem len_sumI {s a b : Bool} {xs ys r : List Nat} {k : Nat} (hd : Dig xs) (kd : Dig ys) (hl : xs.length ≤ k) (kl : ys.length ≤ k) (hc : CanonI s r) (hv : ival s r = ival a xs + ival b ys) : r.length ≤ k + 1 :=
  len_ival hc hv _ (abs_add (abs_of_len hd hl) (abs_of_len kd kl))
/-- Slices and boxes that stand, the boxes one above the other. -/
def Sx (w W : World) (l : List (Option Addr × Nat × List Nat)) (bs : List (Nat × Value × Value)) : Prop :=
  Sb w W l bs ∧ bs.Pairwise (fun a b => b.1 < a.1 ∧ ¬ a.1 = b.1 ∧ ¬ b.1 = a.1)
theorem Sx.get {w W : World} {l : List (Option Addr × Nat × List Nat)} {bs : List (Nat × Value × Value)} (s : Sx w W l bs) {A : Option Addr} {c : Nat} {xs : List Nat} (h : (A, c, xs) ∈ l) : Us W A c xs := s.1.get h
theorem Sx.box {w W : World} {l : List (Option Addr × Nat × List Nat)} {bs : List (Nat × Value × Value)} (s : Sx w W l bs) {g : Nat} {x y : Value} (h : (g, x, y) ∈ bs) : Box W g x y := s.1.box h
theorem Sx.step {w W W' : World} {l : List (Option Addr × Nat × List Nat)} {bs : List (Nat × Value × Value)} (s : Sx w W l bs) (b : Below W.heap.size W W') : Sx w W' l bs := ⟨s.1.step b, s.2⟩
theorem Sx.call {w W W' : World} {l : List (Option Addr × Nat × List Nat)} {bs : List (Nat × Value × Value)} (s : Sx w W l bs) (b : Below W.heap.size W W') {A : Option Addr} {c : Nat} {xs : List Nat} (h : Us W' A c xs) : Sx w W' ((A, c, xs) :: l) bs := ⟨s.1.call b h, s.2⟩
theorem Sx.drew {w W : World} {l : List (Option Addr × Nat × List Nat)} {bs : List (Nat × Value × Value)} (s : Sx w W l bs) : Sx w W.drew l bs := ⟨s.1.drew, s.2⟩
theorem Sx.alloc {w W : World} {l : List (Option Addr × Nat × List Nat)} {bs : List (Nat × Value × Value)} (s : Sx w W l bs) (x y : Value) (ty : TypeId) : Sx w (W.alloc (.cells #[x, y] ty)) l ((W.heap.size, x, y) :: bs) := by
  refine ⟨⟨s.1.1.alloc _, fun t ht => ?_⟩, List.pairwise_cons.2 ⟨fun t ht => ?_, s.2⟩⟩
  · rcases List.mem_cons.1 ht with rfl | ht
    · exact Box.new W x y ty
    · exact (s.1.2 t ht).alloc _
  · have h := (s.1.2 t ht).2.2.2.2
    exact ⟨h, by simp only; omega, by simp only; omega⟩
theorem Sx.alloc2 {w W : World} {l : List (Option Addr × Nat × List Nat)} {bs : List (Nat × Value × Value)} (s : Sx w W l bs) (x y z v : Value) (ty : TypeId) : Sx w ((W.alloc (.cells #[x, y] ty)).alloc (.cells #[z, v] ty)) l ((W.heap.size + 1, z, v) :: (W.heap.size, x, y) :: bs) := by
  have h := (s.alloc x y ty).alloc z v ty
  have e : (W.alloc (.cells #[x, y] ty)).heap.size = W.heap.size + 1 := by simp
  rw [e] at h
  exact h
theorem Sx.of {w W : World} {l : List (Option Addr × Nat × List Nat)} {g h q : Nat} {x y u v a b : Value} (s : Sb w W l [(g, x, y), (h, u, v)]) (hgh : g < h) (hq : h < W.heap.size) (e : W.heap.size = q) (ty : TypeId) : Sx w (W.alloc (.cells #[a, b] ty)) l [(q, a, b), (h, u, v), (g, x, y)] := by
  subst e
  have h0 : Sx w W l [(h, u, v), (g, x, y)] := ⟨⟨s.1, fun t ht => s.2 t (by simp at ht ⊢; exact ht.symm)⟩, by simp; omega⟩
  exact h0.alloc a b ty
/-- The boxes behind a store. -/
def upd (g : Nat) (x y : Value) (bs : List (Nat × Value × Value)) : List (Nat × Value × Value) := bs.map fun t => if t.1 = g then (g, x, y) else t
theorem upd_fst (g : Nat) (x y : Value) (t : Nat × Value × Value) : (if t.1 = g then (g, x, y) else t).1 = t.1 := by
  by_cases h : t.1 = g
  · rw [if_pos h]; exact h.symm
  · rw [if_neg h]
theorem Sx.store {w W : World} {l : List (Option Addr × Nat × List Nat)} {bs : List (Nat × Value × Value)} (s : Sx w W l bs) {g n0 c0 : Nat} {s0 : Bool} {A0 : Option Addr} (hm : (g, Value.bool s0, Value.slice A0 n0 c0) ∈ bs) (hg : w.heap.size ≤ g) (x y : Value) :
    Sx w ((W.setCell ⟨g, 0, none⟩ x).setCell ⟨g, 1, none⟩ y) l (upd g x y bs) := by
  have hb := s.box hm
  refine ⟨⟨⟨(s.1.1.1.setCell (p := ⟨g, 0, none⟩) hg _).setCell (p := ⟨g, 1, none⟩) hg _, fun t ht => (s.1.1.2 t ht).boxed hb _ _⟩, fun t ht => ?_⟩, ?_⟩
  · obtain ⟨u, hu, rfl⟩ := List.mem_map.1 ht
    by_cases e : u.1 = g
    · rw [if_pos e]
      exact hb.set _ _
    · rw [if_neg e]
      exact ((s.1.2 u hu).far e _).far e _
  · refine List.pairwise_map.2 (s.2.imp fun {a b} h => ?_)
    rw [upd_fst, upd_fst]
    exact h

theorem canon_right {s : Bool} {xs : List Nat} (h : CanonI s xs) : rightI s xs = true := by
  have h1 := h.1
  unfold Canon at h1
  rw [List.getLast?_eq_getElem?] at h1
  have h2 := h.2
  unfold rightI rightB
  cases xs with
  | nil => cases s <;> simp_all
  | cons x r =>
    have e : (x :: r)[(x :: r).length - 1]? = some ((x :: r)[(x :: r).length - 1]'(by simp)) := List.getElem?_eq_getElem _
    rw [e] at h1 ⊢
    simp at h1 ⊢
    exact h1
theorem back_low {X : Int} {n : Int} (h0 : 0 ≤ n) (h1 : n ≤ 10000) : ordI (shlI (shrI X n) n) X ≤ 0 := by
  refine ord_le ?_
  unfold shlI shrI
  rw [if_pos ⟨h0, h1⟩, if_pos ⟨h0, h1⟩]
  have hd : (0 : Int) < 2 ^ n.toNat := Int.pow_pos (by decide)
  have := Int.ediv_mul_le X (show (2 : Int) ^ n.toNat ≠ 0 by omega)
  omega
theorem back_high {X : Int} {n : Int} (h0 : 0 ≤ n) (h1 : n ≤ 10000) : ordI X (shlI (shrI X n + 1) n) = -1 := by
  have hd : (0 : Int) < 2 ^ n.toNat := Int.pow_pos (by decide)
  have e : shlI (shrI X n + 1) n = (X / 2 ^ n.toNat + 1) * 2 ^ n.toNat := by
    unfold shlI shrI
    rw [if_pos ⟨h0, h1⟩, if_pos ⟨h0, h1⟩]
  rw [e]
  unfold ordI
  rw [if_pos (Int.lt_ediv_add_one_mul_self X hd)]
theorem back_shl {X : Int} {n : Int} (h0 : 0 ≤ n) (h1 : n ≤ 10000) : shrI (shlI X n) n = X := by
  unfold shlI shrI
  rw [if_pos ⟨h0, h1⟩, if_pos ⟨h0, h1⟩]
  have hd : (0 : Int) < 2 ^ n.toNat := Int.pow_pos (by decide)
  exact Int.mul_ediv_cancel X (by omega)
theorem ord_flip (a b : Int) : -ordI a b = ordI b a ∧ -1 ≤ ordI a b ∧ ordI a b ≤ 1 := by
  rcases Int.lt_trichotomy a b with h | h | h
  · have e1 : ordI a b = -1 := by unfold ordI; rw [if_pos h]
    have e2 : ordI b a = 1 := ord_gt h
    rw [e1, e2]; decide
  · subst h
    have e1 : ordI a a = 0 := by unfold ordI; rw [if_neg (by omega), if_pos rfl]
    rw [e1]; decide
  · have e1 : ordI b a = -1 := by unfold ordI; rw [if_pos h]
    have e2 : ordI a b = 1 := ord_gt h
    rw [e1, e2]; decide
theorem Sb.held5 {w W : World} {l : List (Option Addr × Nat × List Nat)} {a b c d e : Nat} {a1 a2 b1 b2 c1 c2 d1 d2 e1 e2 : Value} (s : Sb w W l [(a, a1, a2), (b, b1, b2), (c, c1, c2), (d, d1, d2), (e, e1, e2)]) :
    W.cell? ⟨a, 0, none⟩ = some a1 ∧ W.cell? ⟨a, 1, none⟩ = some a2 ∧ W.cell? ⟨b, 0, none⟩ = some b1 ∧ W.cell? ⟨b, 1, none⟩ = some b2 ∧ W.cell? ⟨c, 0, none⟩ = some c1 ∧ W.cell? ⟨c, 1, none⟩ = some c2 ∧
      W.cell? ⟨d, 0, none⟩ = some d1 ∧ W.cell? ⟨d, 1, none⟩ = some d2 ∧ W.cell? ⟨e, 0, none⟩ = some e1 ∧ W.cell? ⟨e, 1, none⟩ = some e2 := by
  have ha := s.box (g := a) (x := a1) (y := a2) (by simp)
  have hb := s.box (g := b) (x := b1) (y := b2) (by simp)
  have hc := s.box (g := c) (x := c1) (y := c2) (by simp)
  have hd := s.box (g := d) (x := d1) (y := d2) (by simp)
  have he := s.box (g := e) (x := e1) (y := e2) (by simp)
  exact ⟨ha.1, ha.2.1, hb.1, hb.2.1, hc.1, hc.2.1, hd.1, hd.2.1, he.1, he.2.1⟩
theorem cell_alloc2 {w : World} {g : Nat} {u v : Value} {o : Obj} (h : w.cell? ⟨g, 0, none⟩ = some u ∧ w.cell? ⟨g, 1, none⟩ = some v) : (w.alloc o).cell? ⟨g, 0, none⟩ = some u ∧ (w.alloc o).cell? ⟨g, 1, none⟩ = some v :=
  ⟨cell_alloc_l _ h.1, cell_alloc_l _ h.2⟩
theorem cell_set2 {w : World} {g k : Nat} {u v x y : Value} (hne : k ≠ g) (h : w.cell? ⟨g, 0, none⟩ = some u ∧ w.cell? ⟨g, 1, none⟩ = some v) :
    ((w.setCell ⟨k, 0, none⟩ x).setCell ⟨k, 1, none⟩ y).cell? ⟨g, 0, none⟩ = some u ∧ ((w.setCell ⟨k, 0, none⟩ x).setCell ⟨k, 1, none⟩ y).cell? ⟨g, 1, none⟩ = some v := by
  refine ⟨?_, ?_⟩
  · rw [World.cell?_setCell_other _ _ _ _ (by simp [hne]), World.cell?_setCell_other _ _ _ _ (by simp [hne])]
    exact h.1
  · rw [World.cell?_setCell_other _ _ _ _ (by simp [hne]), World.cell?_setCell_other _ _ _ _ (by simp [hne])]
    exact h.2
/-- What the two calls of Shl have answered. -/
def BackF (l l2 : List (Option Addr × Nat × List Nat)) (zl zh : Int) (Al Ah : Option Addr) (cl ch : Nat) (sl sh : Bool) (rl rh : List Nat) : Prop :=
  (Al, cl, rl) ∈ l2 ∧ (Ah, ch, rh) ∈ l2 ∧ (∀ t ∈ l, t ∈ l2) ∧ CanonI sl rl ∧ ival sl rl = zl ∧ CanonI sh rh ∧ ival sh rh = zh ∧ rl.length ≤ 373 ∧ rh.length ≤ 374
/-- Behind 'q := ..'. -/
def BackCut1 (w : World) (X n : Int) (l : List (Option Addr × Nat × List Nat)) (y x : Nat × Value × Value) (s8 : Value) (wx : World) : Prop :=
  ∃ q0 A6 c6 g6 r6, s8 = .pointer (some ⟨q0, 0, none⟩) ∧ Sx w wx ((A6, c6, r6) :: l) [(q0, .bool g6, .slice A6 r6.length c6), y, x] ∧ w.heap.size + 1 < q0 ∧ CanonI g6 r6 ∧ ival g6 r6 = shrI X n ∧ r6.length ≤ 60
/-- Behind 'low, high := ..'. -/
def BackCut (w : World) (l : List (Option Addr × Nat × List Nat)) (zl zh : Int) (q x y : Nat × Value × Value) (s9 s10 : Value) (wx : World) : Prop :=
  ∃ gl gh Al cl sl rl Ah ch sh rh, s9 = .pointer (some ⟨gl, 0, none⟩) ∧ s10 = .pointer (some ⟨gh, 0, none⟩) ∧ Sb w wx ((Ah, ch, rh) :: (Al, cl, rl) :: l) [(gl, .bool sl, .slice Al rl.length cl), (gh, .bool sh, .slice Ah rh.length ch), q, x, y] ∧
    CanonI sl rl ∧ ival sl rl = zl ∧ CanonI sh rh ∧ ival sh rh = zh ∧ rl.length ≤ 373 ∧ rh.length ≤ 374
theorem BackCut.fin {w wx : World} {l l2 : List (Option Addr × Nat × List Nat)} {bs : List (Nat × Value × Value)} {zl zh : Int} {q x y : Nat × Value × Value} {gl gh cl ch : Nat} {Al Ah : Option Addr} {sl sh : Bool} {rl rh : List Nat} (s : Sx w wx l2 bs)
    (ml : (gl, Value.bool sl, Value.slice Al rl.length cl) ∈ bs) (mh : (gh, Value.bool sh, Value.slice Ah rh.length ch) ∈ bs) (mq : q ∈ bs) (mx : x ∈ bs) (my : y ∈ bs) (F : BackF l l2 zl zh Al Ah cl ch sl sh rl rh) :
    BackCut w l zl zh q x y (.pointer (some ⟨gl, 0, none⟩)) (.pointer (some ⟨gh, 0, none⟩)) wx := by
  obtain ⟨f1, f2, f3, f4, f5, f6, f7, f8, f9⟩ := F
  refine ⟨gl, gh, Al, cl, sl, rl, Ah, ch, sh, rh, rfl, rfl, ⟨⟨s.1.1.1, fun t ht => ?_⟩, fun t ht => ?_⟩, f4, f5, f6, f7, f8, f9⟩
  · rcases List.mem_cons.1 ht with rfl | ht
    · exact s.1.1.2 _ f2
    · rcases List.mem_cons.1 ht with rfl | ht
      · exact s.1.1.2 _ f1
      · exact s.1.1.2 _ (f3 t ht)
  · simp only [List.mem_cons, List.not_mem_nil, or_false] at ht
    rcases ht with rfl | rfl | rfl | rfl | rfl
    · exact s.1.2 _ ml
    · exact s.1.2 _ mh
    · exact s.1.2 _ mq
    · exact s.1.2 _ mx
    · exact s.1.2 _ my

/-- How far the statement 'low, high := ..' is: j calls are done; p, q: low's and high's block are there. -/
def BInv (w : World) (q0 : Nat) (A6 : Option Addr) (c6 : Nat) (g6 : Bool) (r6 : List Nat) (l : List (Option Addr × Nat × List Nat)) (bx bz : Nat × Value × Value) (n : Int) (j : Nat) (p q : Bool) (v9 v10 t36 t38 t39 t41 : Value) (W : World) : Prop :=
  ∃ l2 bs, Sx w W l2 bs ∧ (∀ t ∈ l, t ∈ l2) ∧ (A6, c6, r6) ∈ l2 ∧ (q0, Value.bool g6, Value.slice A6 r6.length c6) ∈ bs ∧ bx ∈ bs ∧ bz ∈ bs ∧
    (1 ≤ j → ∃ A c s r, t36 = .agg #[.bool s, .slice A r.length c] ∧ (A, c, r) ∈ l2 ∧ CanonI s r ∧ ival s r = shlI (ival g6 r6) n ∧ r.length ≤ 373) ∧
    (j = 2 → ∃ A c s r, t38 = .agg #[.bool s, .slice A r.length c] ∧ (A, c, r) ∈ l2 ∧ ival s r = 1 ∧ r.length ≤ 1) ∧
    (j = 3 → ∃ A c s r, t39 = .agg #[.bool s, .slice A r.length c] ∧ (A, c, r) ∈ l2 ∧ ival s r = ival g6 r6 + 1 ∧ r.length ≤ 61) ∧
    (4 ≤ j → ∃ A c s r, t41 = .agg #[.bool s, .slice A r.length c] ∧ (A, c, r) ∈ l2 ∧ CanonI s r ∧ ival s r = shlI (ival g6 r6 + 1) n ∧ r.length ≤ 374) ∧
    (p = true → ∃ g, v9 = .pointer (some ⟨g, 0, none⟩) ∧ (g, Value.bool false, Value.slice none 0 0) ∈ bs ∧ q0 < g) ∧
    (q = true → ∃ g, v10 = .pointer (some ⟨g, 0, none⟩) ∧ (g, Value.bool false, Value.slice none 0 0) ∈ bs ∧ q0 < g) ∧
    (p = true → q = true → ¬ v9 = v10)
section
variable {w W W' : World} {q0 : Nat} {A6 A : Option Addr} {c6 c : Nat} {g6 s : Bool} {r6 r : List Nat} {l : List (Option Addr × Nat × List Nat)} {bx bz : Nat × Value × Value} {n : Int} {j : Nat} {p q : Bool} {v9 v10 t36 t38 t39 t41 : Value}
theorem BInv.held (h : BInv w q0 A6 c6 g6 r6 l bx bz n j p q v9 v10 t36 t38 t39 t41 W) : W.cell? ⟨q0, 0, none⟩ = some (.bool g6) ∧ W.cell? ⟨q0, 1, none⟩ = some (.slice A6 r6.length c6) := by
  obtain ⟨l2, bs, sx, _, _, mq, _⟩ := h
  exact ⟨(sx.box mq).1, (sx.box mq).2.1⟩
theorem BInv.us (h : BInv w q0 A6 c6 g6 r6 l bx bz n j p q v9 v10 t36 t38 t39 t41 W) : Us W A6 c6 r6 := by
  obtain ⟨l2, bs, sx, _, m6, _⟩ := h
  exact sx.get m6
theorem BInv.start (sx : Sx w W ((A6, c6, r6) :: l) [(q0, .bool g6, .slice A6 r6.length c6), bx, bz]) : BInv w q0 A6 c6 g6 r6 ((A6, c6, r6) :: l) bx bz n 0 false false v9 v10 t36 t38 t39 t41 W := by
  refine ⟨_, _, sx, fun t ht => ht, List.mem_cons_self, List.mem_cons_self, List.mem_cons_of_mem _ List.mem_cons_self, List.mem_cons_of_mem _ (List.mem_cons_of_mem _ List.mem_cons_self), ?_, ?_, ?_, ?_, ?_, ?_, ?_⟩
  · intro e; omega
  · intro e; omega
  · intro e; omega
  · intro e; omega
  · intro e; cases e
  · intro e; cases e
  · intro e; cases e
theorem BInv.allocL (h : BInv w q0 A6 c6 g6 r6 l bx bz n j false q v9 v10 t36 t38 t39 t41 W) (ty : TypeId) :
    BInv w q0 A6 c6 g6 r6 l bx bz n j true q (.pointer (some ⟨W.heap.size, 0, none⟩)) v10 t36 t38 t39 t41 (W.alloc (.cells #[.bool false, .slice none 0 0] ty)) := by
  obtain ⟨l2, bs, sx, ml, m6, mq, mx, mz, f1, f2, f3, f4, f5, f6, f7⟩ := h
  refine ⟨l2, _, sx.alloc _ _ ty, ml, m6, List.mem_cons_of_mem _ mq, List.mem_cons_of_mem _ mx, List.mem_cons_of_mem _ mz, f1, f2, f3, f4, fun _ => ⟨_, rfl, List.mem_cons_self, (sx.box mq).2.2.2.2⟩, fun hq => ?_, fun _ hq e => ?_⟩
  · obtain ⟨g, e, m, lt⟩ := f6 hq
    exact ⟨g, e, List.mem_cons_of_mem _ m, lt⟩
  · obtain ⟨g, rfl, m, lt⟩ := f6 hq
    have := (sx.box m).2.2.2.2
    simp only [Value.pointer.injEq, Option.some.injEq, Addr.mk.injEq] at e
    omega
theorem BInv.allocH (h : BInv w q0 A6 c6 g6 r6 l bx bz n j p false v9 v10 t36 t38 t39 t41 W) (ty : TypeId) :
    BInv w q0 A6 c6 g6 r6 l bx bz n j p true v9 (.pointer (some ⟨W.heap.size, 0, none⟩)) t36 t38 t39 t41 (W.alloc (.cells #[.bool false, .slice none 0 0] ty)) := by
  obtain ⟨l2, bs, sx, ml, m6, mq, mx, mz, f1, f2, f3, f4, f5, f6, f7⟩ := h
  refine ⟨l2, _, sx.alloc _ _ ty, ml, m6, List.mem_cons_of_mem _ mq, List.mem_cons_of_mem _ mx, List.mem_cons_of_mem _ mz, f1, f2, f3, f4, fun hp => ?_, fun _ => ⟨_, rfl, List.mem_cons_self, (sx.box mq).2.2.2.2⟩, fun hp _ e => ?_⟩
  · obtain ⟨g, e, m, lt⟩ := f5 hp
    exact ⟨g, e, List.mem_cons_of_mem _ m, lt⟩
  · obtain ⟨g, rfl, m, lt⟩ := f5 hp
    have := (sx.box m).2.2.2.2
    simp only [Value.pointer.injEq, Option.some.injEq, Addr.mk.injEq] at e
    omega
theorem BInv.call1 (h : BInv w q0 A6 c6 g6 r6 l bx bz n 0 p q v9 v10 t36 t38 t39 t41 W) (b : Below W.heap.size W W') (u : Us W' A c r) (k : CanonI s r) (v : ival s r = shlI (ival g6 r6) n) (hl : r6.length ≤ 60) :
    BInv w q0 A6 c6 g6 r6 l bx bz n 1 p q v9 v10 (.agg #[.bool s, .slice A r.length c]) t38 t39 t41 W' := by
  obtain ⟨l2, bs, sx, ml, m6, mq, mx, mz, f1, f2, f3, f4, f5, f6, f7⟩ := h
  exact ⟨_, bs, sx.call b u, fun t ht => List.mem_cons_of_mem _ (ml t ht), List.mem_cons_of_mem _ m6, mq, mx, mz, fun _ => ⟨A, c, s, r, rfl, List.mem_cons_self, k, v, lenI_shl (sx.get m6).1 hl k v⟩, fun e => by omega, fun e => by omega, fun e => by omega, f5, f6, f7⟩
theorem BInv.call2 (h : BInv w q0 A6 c6 g6 r6 l bx bz n 1 p q v9 v10 t36 t38 t39 t41 W) (b : Below W.heap.size W W') (u : Us W' A c r) (k : CanonI s r) (v : ival s r = 1) :
    BInv w q0 A6 c6 g6 r6 l bx bz n 2 p q v9 v10 t36 (.agg #[.bool s, .slice A r.length c]) t39 t41 W' := by
  obtain ⟨l2, bs, sx, ml, m6, mq, mx, mz, f1, f2, f3, f4, f5, f6, f7⟩ := h
  obtain ⟨A1, c1, s1, r1, e1, m1, k1, v1, l1⟩ := f1 (by omega)
  exact ⟨_, bs, sx.call b u, fun t ht => List.mem_cons_of_mem _ (ml t ht), List.mem_cons_of_mem _ m6, mq, mx, mz, fun _ => ⟨A1, c1, s1, r1, e1, List.mem_cons_of_mem _ m1, k1, v1, l1⟩, fun _ => ⟨A, c, s, r, rfl, List.mem_cons_self, v, len_ival k v 1 (by decide)⟩, fun e => by omega, fun e => by omega, f5, f6, f7⟩
theorem BInv.one (h : BInv w q0 A6 c6 g6 r6 l bx bz n 2 p q v9 v10 t36 t38 t39 t41 W) : ∃ A c s r, t38 = .agg #[.bool s, .slice A r.length c] ∧ Us W A c r ∧ ival s r = 1 ∧ r.length ≤ 1 := by
  obtain ⟨l2, bs, sx, ml, m6, mq, mx, mz, f1, f2, f3, f4, f5, f6, f7⟩ := h
  obtain ⟨A1, c1, s1, r1, e1, m1, v1, l1⟩ := f2 rfl
  exact ⟨A1, c1, s1, r1, e1, sx.get m1, v1, l1⟩
theorem BInv.call3 (h : BInv w q0 A6 c6 g6 r6 l bx bz n 2 p q v9 v10 t36 t38 t39 t41 W) (b : Below W.heap.size W W') (u : Us W' A c r) (k : CanonI s r) (v : ival s r = ival g6 r6 + 1) (hl : r.length ≤ 61) :
    BInv w q0 A6 c6 g6 r6 l bx bz n 3 p q v9 v10 t36 t38 (.agg #[.bool s, .slice A r.length c]) t41 W' := by
  obtain ⟨l2, bs, sx, ml, m6, mq, mx, mz, f1, f2, f3, f4, f5, f6, f7⟩ := h
  obtain ⟨A1, c1, s1, r1, e1, m1, k1, v1, l1⟩ := f1 (by omega)
  exact ⟨_, bs, sx.call b u, fun t ht => List.mem_cons_of_mem _ (ml t ht), List.mem_cons_of_mem _ m6, mq, mx, mz, fun _ => ⟨A1, c1, s1, r1, e1, List.mem_cons_of_mem _ m1, k1, v1, l1⟩, fun e => by omega, fun _ => ⟨A, c, s, r, rfl, List.mem_cons_self, v, hl⟩, fun e => by omega, f5, f6, f7⟩
theorem BInv.sum (h : BInv w q0 A6 c6 g6 r6 l bx bz n 3 p q v9 v10 t36 t38 t39 t41 W) : ∃ A c s r, t39 = .agg #[.bool s, .slice A r.length c] ∧ Us W A c r ∧ ival s r = ival g6 r6 + 1 ∧ r.length ≤ 61 := by
  obtain ⟨l2, bs, sx, ml, m6, mq, mx, mz, f1, f2, f3, f4, f5, f6, f7⟩ := h
  obtain ⟨A1, c1, s1, r1, e1, m1, v1, l1⟩ := f3 rfl
  exact ⟨A1, c1, s1, r1, e1, sx.get m1, v1, l1⟩
theorem BInv.call4 (h : BInv w q0 A6 c6 g6 r6 l bx bz n 3 p q v9 v10 t36 t38 t39 t41 W) (b : Below W.heap.size W W') (u : Us W' A c r) (k : CanonI s r) (v : ival s r = shlI (ival g6 r6 + 1) n) (hl : r.length ≤ 374) :
    BInv w q0 A6 c6 g6 r6 l bx bz n 4 p q v9 v10 t36 t38 t39 (.agg #[.bool s, .slice A r.length c]) W' := by
  obtain ⟨l2, bs, sx, ml, m6, mq, mx, mz, f1, f2, f3, f4, f5, f6, f7⟩ := h
  obtain ⟨A1, c1, s1, r1, e1, m1, k1, v1, l1⟩ := f1 (by omega)
  exact ⟨_, bs, sx.call b u, fun t ht => List.mem_cons_of_mem _ (ml t ht), List.mem_cons_of_mem _ m6, mq, mx, mz, fun _ => ⟨A1, c1, s1, r1, e1, List.mem_cons_of_mem _ m1, k1, v1, l1⟩, fun e => by omega, fun e => by omega, fun _ => ⟨A, c, s, r, rfl, List.mem_cons_self, k, v, hl⟩, f5, f6, f7⟩
/-- All is there: what the two stores need, and what they leave. -/
theorem BInv.last (h : BInv w q0 A6 c6 g6 r6 l bx bz n 4 true true v9 v10 t36 t38 t39 t41 W) (hq0 : w.heap.size ≤ q0) (hbx : bx.1 < q0) (hbz : bz.1 < q0) :
    ∃ (gl gh : Nat) (Al : Option Addr) (cl : Nat) (sl : Bool) (rl : List Nat) (Ah : Option Addr) (ch : Nat) (sh : Bool) (rh : List Nat), v9 = .pointer (some ⟨gl, 0, none⟩) ∧ v10 = .pointer (some ⟨gh, 0, none⟩) ∧ t36 = .agg #[.bool sl, .slice Al rl.length cl] ∧ t41 = .agg #[.bool sh, .slice Ah rh.length ch] ∧
      Box W gl (.bool false) (.slice none 0 0) ∧ Box W gh (.bool false) (.slice none 0 0) ∧ (¬ gl = gh ∧ ¬ gh = gl ∧ ¬ q0 = gl ∧ ¬ gl = q0 ∧ ¬ q0 = gh ∧ ¬ gh = q0) ∧
      BackCut w l (shlI (ival g6 r6) n) (shlI (ival g6 r6 + 1) n) (q0, .bool g6, .slice A6 r6.length c6) bx bz v9 v10 ((((W.setCell ⟨gl, 0, none⟩ (.bool sl)).setCell ⟨gl, 1, none⟩ (.slice Al rl.length cl)).setCell ⟨gh, 0, none⟩ (.bool sh)).setCell ⟨gh, 1, none⟩ (.slice Ah rh.length ch)) := by
  obtain ⟨l2, bs, sx, ml, m6, mq, mx, mz, f1, f2, f3, f4, f5, f6, f7⟩ := h
  obtain ⟨Al, cl, sl, rl, rfl, m1, k1, v1, l1⟩ := f1 (by omega)
  obtain ⟨Ah, ch, sh, rh, rfl, m4, k4, v4, l4⟩ := f4 (by omega)
  obtain ⟨gl, rfl, mgl, hgl⟩ := f5 rfl
  obtain ⟨gh, rfl, mgh, hgh⟩ := f6 rfl
  have hne : gl ≠ gh := fun e => f7 rfl rfl (by rw [e])
  have up : ∀ {g : Nat} {x y : Value} {t : Nat × Value × Value} {bs : List (Nat × Value × Value)}, t ∈ bs → t.1 ≠ g → t ∈ upd g x y bs := fun {g x y t bs} ht hn => List.mem_map.2 ⟨t, ht, if_neg hn⟩
  have us : ∀ {g : Nat} {x y x' y' : Value} {bs : List (Nat × Value × Value)}, (g, x', y') ∈ bs → (g, x, y) ∈ upd g x y bs := fun {g x y x' y' bs} ht => List.mem_map.2 ⟨_, ht, if_pos rfl⟩
  refine ⟨gl, gh, Al, cl, sl, rl, Ah, ch, sh, rh, rfl, rfl, rfl, rfl, sx.box mgl, sx.box mgh, ⟨hne, hne.symm, by omega, by omega, by omega, by omega⟩, ?_⟩
  have m2 : (gh, Value.bool false, Value.slice none 0 0) ∈ upd gl (.bool sl) (.slice Al rl.length cl) bs := up mgh (Ne.symm hne)
  exact BackCut.fin ((sx.store mgl (by omega) _ _).store m2 (by omega) _ _) (up (us mgl) hne) (us m2) (up (up mq (by simp only; omega)) (by simp only; omega)) (up (up mx (by omega)) (by omega)) (up (up mz (by omega)) (by omega))
    ⟨m1, m4, ml, k1, v1, k4, v4, l1, l4⟩
end

set_option maxRecDepth 100000 in
set_option maxHeartbeats 40000000 in
theorem bback_main (s t : Bool) (A B : Option Addr) (c d : Nat) (xs ys : List Nat) (n : Int) (w : World) (h : Us w A c xs) (k : Us w B d ys) (hn : xs.length ≤ 60) (hm : ys.length ≤ 60) (hr : rightI s xs = true) (kr : rightI t ys = true) (n0 : 0 ≤ n) (n1 : n ≤ 255) :
    Calls Try.prog 9 #[.agg #[.bool s, .slice A xs.length c], .agg #[.bool t, .slice B ys.length d], .int .u8 n] w fun e w' => e = .returned (.bool true) ∧ Below w.heap.size w w' := by
  have s0 := Sb.start h k (.bool s) (.slice A xs.length c) (.bool t) (.slice B ys.length d) 43
  have hd := h.1
  have hcap := h.cap
  have kd := k.1
  have kcap := k.cap
  have HX := Lib.hid (abs_of_len (s := s) hd hn)
  have HY := Lib.hid (abs_of_len (s := t) kd hm)
  have HC := Lib.hid (right_canon hr)
  have HD := Lib.hid (right_canon kr)
  have HR := Lib.hid hr
  have KR := Lib.hid kr
  clear h k hr kr
  go_enter Try.func9, Try.ntmps9
  go_upto_region 6 with (first
    | (have _t := s0; go_at_call 34; clear _t; go_loud (refine (alive2_any _).mono ?_; rintro e w1 ⟨rfl, b⟩; have s1 := s0.step b; clear b s0; obtain ⟨x1, x2, z1, z2⟩ := s1.held2))
    | (have _t := s1; go_at_call 35; clear _t; go_loud (refine (great_no s _ _ _ _ hn).mono ?_; rintro e w2 ⟨rfl, b⟩; have s2 := s1.step b; clear b s1 x1 x2 z1 z2; obtain ⟨x1, x2, z1, z2⟩ := s2.held2))
    | (have _t := s2; go_at_call 35; clear _t; go_loud (refine (great_no t _ _ _ _ hm).mono ?_; rintro e w3 ⟨rfl, b⟩; have s3 := s2.step b; clear b s2 x1 x2 z1 z2; obtain ⟨x1, x2, z1, z2⟩ := s3.held2))
    | (have _t := s3; go_at_call 41; clear _t; go_loud (refine (rbright_any s _ _ xs _ (s3.get (by simp)) (by omega)).mono ?_; rintro e w4 ⟨rfl, b⟩; rw [HR.out]; have s4 := s3.step b; clear b s3 x1 x2 z1 z2; obtain ⟨x1, x2, z1, z2⟩ := s4.held2))
    | (have _t := s4; go_at_call 41; clear _t; go_loud (refine (rbright_any t _ _ ys _ (s4.get (by simp)) (by omega)).mono ?_; rintro e w5 ⟨rfl, b⟩; rw [KR.out]; have s5 := s4.step b; clear b s4 x1 x2 z1 z2; obtain ⟨x1, x2, z1, z2⟩ := s5.held2)))
  go_cut [8] (fun s8 wx => BackCut1 w (ival s xs) n [(B, d, ys), (A, c, xs)] (w.heap.size + 1, .bool t, .slice B ys.length d) (w.heap.size, .bool s, .slice A xs.length c) s8 wx)
  case first =>
    go_wp2_with (have _t := s5; go_at_call 56; clear _t; go_loud (refine (bshr_any s _ _ xs n _ (s5.get (by simp)) (by omega) HC.out).mono ?_; rintro e w6 ⟨A6, c6, g6, r6, rfl, q, k6, v6, b⟩; have s6 := s5.call b q; have d6 := q.1; have l6 : r6.length ≤ 60 := len_ival k6 v6 60 (abs_shr HX.out n); have HV := Lib.hid v6; have K6 := Lib.hid k6; clear b q s5 x1 x2 z1 z2 v6 k6))
    go_meet
    have hs6 : w.heap.size + 1 < w6.heap.size := (s6.box (g := w.heap.size + 1) (x := .bool t) (y := .slice B ys.length d) (by simp)).2.2.2.2
    exact ⟨_, A6, c6, g6, r6, rfl, Sx.of (a := .bool g6) (b := .slice A6 r6.length c6) s6 (Nat.lt_succ_self _) hs6 rfl 43, hs6, K6.out, HV.out, l6⟩
  case rest =>
  obtain ⟨q0, A6, c6, g6, r6, rfl, s7, hs6, k6, hv6, l6⟩ := hcut
  have d6 := (s7.get List.mem_cons_self).1
  have HV := Lib.hid hv6
  have K6 := Lib.hid k6
  clear k6 hv6 x1 x2 z1 z2 s5
  obtain ⟨W7, hW7⟩ : ∃ W : World, W = wc := ⟨_, rfl⟩
  rw [← hW7] at s7 ⊢
  clear hW7
  go_wp2_with fail
  go_cut [9, 10] (fun s9 s10 wx => BackCut w [(A6, c6, r6), (B, d, ys), (A, c, xs)] (shlI (ival g6 r6) n) (shlI (ival g6 r6 + 1) n) (q0, .bool g6, .slice A6 r6.length c6) (w.heap.size + 1, .bool t, .slice B ys.length d) (w.heap.size, .bool s, .slice A xs.length c) s9 s10 wx)
  case first =>
    clear HX HY HC HD HR KR hd kd hcap kcap hn hm HV K6 n0 n1
    have hI0 : BInv w q0 A6 c6 g6 r6 [(A6, c6, r6), (B, d, ys), (A, c, xs)] (w.heap.size + 1, .bool t, .slice B ys.length d) (w.heap.size, .bool s, .slice A xs.length c) n 0 false false undef undef u36 u38 u39 u41 W7.drew := BInv.start s7.drew
    have hs0 := hI0.held
    clear s7
    refine wp_normalOnly ?_
    refine wp_region_held (S := fun w' => w'.cell? ⟨q0, 0, none⟩ = some (.bool g6) ∧ w'.cell? ⟨q0, 1, none⟩ = some (.slice A6 r6.length c6)) (by kernel_rfl) ?_
    refine wpAnyH_take (i := 0) (v := .agg #[.bool g6, .slice A6 r6.length c6]) rfl (by kernel_rfl) (by kernel_rfl) (by kernel_rfl) (fun _ _ _ h => h) (Or.inl ⟨by rfl, ?_⟩) hs0 ?_
    · rintro w' ⟨e1, e2⟩
      go_simp
    simp only [Act.put, List.setIfInBounds_toArray, List.set_cons_zero, List.set_cons_succ]
    refine wpAnyH_take (i := 1) (v := .int .i64 n) rfl (by kernel_rfl) (by kernel_rfl) (by kernel_rfl) (fun _ _ _ h => h) (Or.inl ⟨by rfl, ?_⟩) hs0 ?_
    · rintro w' ⟨e1, e2⟩
      go_simp
    simp only [Act.put, List.setIfInBounds_toArray, List.set_cons_zero, List.set_cons_succ]
    refine wpAnyH_take (i := 3) (v := .agg #[.bool g6, .slice A6 r6.length c6]) rfl (by kernel_rfl) (by kernel_rfl) (by kernel_rfl) (fun _ _ _ h => h) (Or.inl ⟨by rfl, ?_⟩) hs0 ?_
    · rintro w' ⟨e1, e2⟩
      go_simp
    simp only [Act.put, List.setIfInBounds_toArray, List.set_cons_zero, List.set_cons_succ]
    refine wpAnyH_take (i := 6) (v := .int .i64 n) rfl (by kernel_rfl) (by kernel_rfl) (by kernel_rfl) (fun _ _ _ h => h) (Or.inl ⟨by rfl, ?_⟩) hs0 ?_
    · rintro w' ⟨e1, e2⟩
      go_simp
    simp only [Act.put, List.setIfInBounds_toArray, List.set_cons_zero, List.set_cons_succ]
    refine wpAnyH_states2 (T := Nat × Bool × Bool) (fun x => (4 - x.1) + (if x.2.1 then 0 else 1) + (if x.2.2 then 0 else 1)) (fun x => #[true, true, decide (1 ≤ x.1), true, decide (2 ≤ x.1), decide (3 ≤ x.1), true, decide (4 ≤ x.1), x.2.1, x.2.2, false, false]) (fun x => (4 - x.1) + (if x.2.1 then 0 else 1) + (if x.2.2 then 0 else 1) + 2) (fun x a W => x.1 ≤ 4 ∧ ∃ v9 v10 t36 t38 t39 t41, a = { tmps := #[.agg #[.bool s, .slice A xs.length c], .agg #[.bool t, .slice B ys.length d], .int .u8 n, .pointer (some ⟨w.heap.size, 0, none⟩), .pointer (some ⟨w.heap.size + 1, 0, none⟩), undef, .bool false, .int .i64 n, .pointer (some ⟨q0, 0, none⟩), v9, v10, u11, u12, u13, u14, u15, u16, u17, u18, u19, u20, u21, u22, u23, u24, u25, u26, u27, u28, u29, u30, u31, u32, u33, .agg #[.bool g6, .slice A6 r6.length c6], .int .i64 n, t36, .agg #[.bool g6, .slice A6 r6.length c6], t38, t39, .int .i64 n, t41, u42, u43, u44, u45, u46, u47, u48, u49, u50, u51, u52, u53, u54, u55, u56, u57, u58, u59, u60, u61, u62, u63, u64, u65, u66, u67, u68, u69, u70, u71, u72, u73, u74, u75, u76, u77, u78, u79, u80, u81, u82, u83, u84, u85, u86, u87, u88, u89, u90, u91, u92], defers := [] } ∧ BInv w q0 A6 c6 g6 r6 [(A6, c6, r6), (B, d, ys), (A, c, xs)] (w.heap.size + 1, .bool t, .slice B ys.length d) (w.heap.size, .bool s, .slice A xs.length c) n x.1 x.2.1 x.2.2 v9 v10 t36 t38 t39 t41 W) ?_ (0, false, false) _ _ (by kernel_rfl) (by kernel_rfl) _ _ ⟨by decide, undef, undef, u36, u38, u39, u41, rfl, hI0⟩
    rintro ⟨j, p, q⟩ IH a W ⟨hj, v9, v10, t36, t38, t39, t41, rfl, hI⟩
    clear hI0 hs0
    dsimp only at hj hI ⊢
    obtain rfl | rfl | rfl | rfl | rfl : j = 0 ∨ j = 1 ∨ j = 2 ∨ j = 3 ∨ j = 4 := by omega
    · cases p
      · cases q
        · refine wpAnyH_ready (rs := [2, 8, 9]) (by kernel_rfl) (by simp) (AllReadyH.cons rfl (fun K hK => ?_) (AllReadyH.cons rfl (fun K hK => ?_) (AllReadyH.cons rfl (fun K hK => ?_) AllReadyH.nil)))
          · go_simp
            refine (bshl_any g6 _ _ r6 n _ hI.us (by omega)).mono ?_
            rintro e w2 ⟨A1, c1, s1, r1, rfl, q1, k1, v1, b1⟩
            dsimp only
            have hN := hI.call1 b1 q1 k1 v1 l6
            refine hK.out _ _ hN.held (fun _ => ?_)
            exact IH (1, false, false) _ _ (by decide) (by kernel_rfl) (by kernel_rfl) _ _ ⟨by decide, _, _, _, _, _, _, rfl, hN⟩
          · go_simp
            refine hK.out _ _ (hI.allocL 43).held (fun _ => ?_)
            exact IH (0, true, false) _ _ (by decide) (by kernel_rfl) (by kernel_rfl) _ _ ⟨by decide, _, _, _, _, _, _, rfl, hI.allocL 43⟩
          · go_simp
            refine hK.out _ _ (hI.allocH 43).held (fun _ => ?_)
            exact IH (0, false, true) _ _ (by decide) (by kernel_rfl) (by kernel_rfl) _ _ ⟨by decide, _, _, _, _, _, _, rfl, hI.allocH 43⟩
        · refine wpAnyH_ready (rs := [2, 8]) (by kernel_rfl) (by simp) (AllReadyH.cons rfl (fun K hK => ?_) (AllReadyH.cons rfl (fun K hK => ?_) AllReadyH.nil))
          · go_simp
            refine (bshl_any g6 _ _ r6 n _ hI.us (by omega)).mono ?_
            rintro e w2 ⟨A1, c1, s1, r1, rfl, q1, k1, v1, b1⟩
            dsimp only
            have hN := hI.call1 b1 q1 k1 v1 l6
            refine hK.out _ _ hN.held (fun _ => ?_)
            exact IH (1, false, true) _ _ (by decide) (by kernel_rfl) (by kernel_rfl) _ _ ⟨by decide, _, _, _, _, _, _, rfl, hN⟩
          · go_simp
            refine hK.out _ _ (hI.allocL 43).held (fun _ => ?_)
            exact IH (0, true, true) _ _ (by decide) (by kernel_rfl) (by kernel_rfl) _ _ ⟨by decide, _, _, _, _, _, _, rfl, hI.allocL 43⟩
      · cases q
        · refine wpAnyH_ready (rs := [2, 9]) (by kernel_rfl) (by simp) (AllReadyH.cons rfl (fun K hK => ?_) (AllReadyH.cons rfl (fun K hK => ?_) AllReadyH.nil))
          · go_simp
            refine (bshl_any g6 _ _ r6 n _ hI.us (by omega)).mono ?_
            rintro e w2 ⟨A1, c1, s1, r1, rfl, q1, k1, v1, b1⟩
            dsimp only
            have hN := hI.call1 b1 q1 k1 v1 l6
            refine hK.out _ _ hN.held (fun _ => ?_)
            exact IH (1, true, false) _ _ (by decide) (by kernel_rfl) (by kernel_rfl) _ _ ⟨by decide, _, _, _, _, _, _, rfl, hN⟩
          · go_simp
            refine hK.out _ _ (hI.allocH 43).held (fun _ => ?_)
            exact IH (0, true, true) _ _ (by decide) (by kernel_rfl) (by kernel_rfl) _ _ ⟨by decide, _, _, _, _, _, _, rfl, hI.allocH 43⟩
        · refine wpAnyH_ready (rs := [2]) (by kernel_rfl) (by simp) (AllReadyH.cons rfl (fun K hK => ?_) AllReadyH.nil)
          · go_simp
            refine (bshl_any g6 _ _ r6 n _ hI.us (by omega)).mono ?_
            rintro e w2 ⟨A1, c1, s1, r1, rfl, q1, k1, v1, b1⟩
            dsimp only
            have hN := hI.call1 b1 q1 k1 v1 l6
            refine hK.out _ _ hN.held (fun _ => ?_)
            exact IH (1, true, true) _ _ (by decide) (by kernel_rfl) (by kernel_rfl) _ _ ⟨by decide, _, _, _, _, _, _, rfl, hN⟩
    · cases p
      · cases q
        · refine wpAnyH_ready (rs := [4, 8, 9]) (by kernel_rfl) (by simp) (AllReadyH.cons rfl (fun K hK => ?_) (AllReadyH.cons rfl (fun K hK => ?_) (AllReadyH.cons rfl (fun K hK => ?_) AllReadyH.nil)))
          · go_simp
            refine (bof_any 1 _ (by decide) (by decide)).mono ?_
            rintro e w2 ⟨A1, c1, s1, r1, rfl, q1, k1, v1, b1⟩
            dsimp only
            have hN := hI.call2 b1 q1 k1 v1
            refine hK.out _ _ hN.held (fun _ => ?_)
            exact IH (2, false, false) _ _ (by decide) (by kernel_rfl) (by kernel_rfl) _ _ ⟨by decide, _, _, _, _, _, _, rfl, hN⟩
          · go_simp
            refine hK.out _ _ (hI.allocL 43).held (fun _ => ?_)
            exact IH (1, true, false) _ _ (by decide) (by kernel_rfl) (by kernel_rfl) _ _ ⟨by decide, _, _, _, _, _, _, rfl, hI.allocL 43⟩
          · go_simp
            refine hK.out _ _ (hI.allocH 43).held (fun _ => ?_)
            exact IH (1, false, true) _ _ (by decide) (by kernel_rfl) (by kernel_rfl) _ _ ⟨by decide, _, _, _, _, _, _, rfl, hI.allocH 43⟩
        · refine wpAnyH_ready (rs := [4, 8]) (by kernel_rfl) (by simp) (AllReadyH.cons rfl (fun K hK => ?_) (AllReadyH.cons rfl (fun K hK => ?_) AllReadyH.nil))
          · go_simp
            refine (bof_any 1 _ (by decide) (by decide)).mono ?_
            rintro e w2 ⟨A1, c1, s1, r1, rfl, q1, k1, v1, b1⟩
            dsimp only
            have hN := hI.call2 b1 q1 k1 v1
            refine hK.out _ _ hN.held (fun _ => ?_)
            exact IH (2, false, true) _ _ (by decide) (by kernel_rfl) (by kernel_rfl) _ _ ⟨by decide, _, _, _, _, _, _, rfl, hN⟩
          · go_simp
            refine hK.out _ _ (hI.allocL 43).held (fun _ => ?_)
            exact IH (1, true, true) _ _ (by decide) (by kernel_rfl) (by kernel_rfl) _ _ ⟨by decide, _, _, _, _, _, _, rfl, hI.allocL 43⟩
      · cases q
        · refine wpAnyH_ready (rs := [4, 9]) (by kernel_rfl) (by simp) (AllReadyH.cons rfl (fun K hK => ?_) (AllReadyH.cons rfl (fun K hK => ?_) AllReadyH.nil))
          · go_simp
            refine (bof_any 1 _ (by decide) (by decide)).mono ?_
            rintro e w2 ⟨A1, c1, s1, r1, rfl, q1, k1, v1, b1⟩
            dsimp only
            have hN := hI.call2 b1 q1 k1 v1
            refine hK.out _ _ hN.held (fun _ => ?_)
            exact IH (2, true, false) _ _ (by decide) (by kernel_rfl) (by kernel_rfl) _ _ ⟨by decide, _, _, _, _, _, _, rfl, hN⟩
          · go_simp
            refine hK.out _ _ (hI.allocH 43).held (fun _ => ?_)
            exact IH (1, true, true) _ _ (by decide) (by kernel_rfl) (by kernel_rfl) _ _ ⟨by decide, _, _, _, _, _, _, rfl, hI.allocH 43⟩
        · refine wpAnyH_ready (rs := [4]) (by kernel_rfl) (by simp) (AllReadyH.cons rfl (fun K hK => ?_) AllReadyH.nil)
          · go_simp
            refine (bof_any 1 _ (by decide) (by decide)).mono ?_
            rintro e w2 ⟨A1, c1, s1, r1, rfl, q1, k1, v1, b1⟩
            dsimp only
            have hN := hI.call2 b1 q1 k1 v1
            refine hK.out _ _ hN.held (fun _ => ?_)
            exact IH (2, true, true) _ _ (by decide) (by kernel_rfl) (by kernel_rfl) _ _ ⟨by decide, _, _, _, _, _, _, rfl, hN⟩
    · cases p
      · cases q
        · obtain ⟨Ao, co, so, ro, rfl, uo, vo, lo⟩ := hI.one
          have VO := Lib.hid vo
          clear vo
          refine wpAnyH_ready (rs := [5, 8, 9]) (by kernel_rfl) (by simp) (AllReadyH.cons rfl (fun K hK => ?_) (AllReadyH.cons rfl (fun K hK => ?_) (AllReadyH.cons rfl (fun K hK => ?_) AllReadyH.nil)))
          · go_simp
            refine (badd_any g6 so _ _ _ _ r6 ro _ hI.us uo (by omega) (by omega)).mono ?_
            rintro e w2 ⟨A1, c1, s1, r1, rfl, q1, k1, v1, b1⟩
            dsimp only
            have hN := hI.call3 b1 q1 k1 (by rw [v1, VO.out]) (len_sumI (k := 60) d6 uo.1 l6 (by omega) k1 v1)
            refine hK.out _ _ hN.held (fun _ => ?_)
            exact IH (3, false, false) _ _ (by decide) (by kernel_rfl) (by kernel_rfl) _ _ ⟨by decide, _, _, _, _, _, _, rfl, hN⟩
          · go_simp
            refine hK.out _ _ (hI.allocL 43).held (fun _ => ?_)
            exact IH (2, true, false) _ _ (by decide) (by kernel_rfl) (by kernel_rfl) _ _ ⟨by decide, _, _, _, _, _, _, rfl, hI.allocL 43⟩
          · go_simp
            refine hK.out _ _ (hI.allocH 43).held (fun _ => ?_)
            exact IH (2, false, true) _ _ (by decide) (by kernel_rfl) (by kernel_rfl) _ _ ⟨by decide, _, _, _, _, _, _, rfl, hI.allocH 43⟩
        · obtain ⟨Ao, co, so, ro, rfl, uo, vo, lo⟩ := hI.one
          have VO := Lib.hid vo
          clear vo
          refine wpAnyH_ready (rs := [5, 8]) (by kernel_rfl) (by simp) (AllReadyH.cons rfl (fun K hK => ?_) (AllReadyH.cons rfl (fun K hK => ?_) AllReadyH.nil))
          · go_simp
            refine (badd_any g6 so _ _ _ _ r6 ro _ hI.us uo (by omega) (by omega)).mono ?_
            rintro e w2 ⟨A1, c1, s1, r1, rfl, q1, k1, v1, b1⟩
            dsimp only
            have hN := hI.call3 b1 q1 k1 (by rw [v1, VO.out]) (len_sumI (k := 60) d6 uo.1 l6 (by omega) k1 v1)
            refine hK.out _ _ hN.held (fun _ => ?_)
            exact IH (3, false, true) _ _ (by decide) (by kernel_rfl) (by kernel_rfl) _ _ ⟨by decide, _, _, _, _, _, _, rfl, hN⟩
          · go_simp
            refine hK.out _ _ (hI.allocL 43).held (fun _ => ?_)
            exact IH (2, true, true) _ _ (by decide) (by kernel_rfl) (by kernel_rfl) _ _ ⟨by decide, _, _, _, _, _, _, rfl, hI.allocL 43⟩
      · cases q
        · obtain ⟨Ao, co, so, ro, rfl, uo, vo, lo⟩ := hI.one
          have VO := Lib.hid vo
          clear vo
          refine wpAnyH_ready (rs := [5, 9]) (by kernel_rfl) (by simp) (AllReadyH.cons rfl (fun K hK => ?_) (AllReadyH.cons rfl (fun K hK => ?_) AllReadyH.nil))
          · go_simp
            refine (badd_any g6 so _ _ _ _ r6 ro _ hI.us uo (by omega) (by omega)).mono ?_
            rintro e w2 ⟨A1, c1, s1, r1, rfl, q1, k1, v1, b1⟩
            dsimp only
            have hN := hI.call3 b1 q1 k1 (by rw [v1, VO.out]) (len_sumI (k := 60) d6 uo.1 l6 (by omega) k1 v1)
            refine hK.out _ _ hN.held (fun _ => ?_)
            exact IH (3, true, false) _ _ (by decide) (by kernel_rfl) (by kernel_rfl) _ _ ⟨by decide, _, _, _, _, _, _, rfl, hN⟩
          · go_simp
            refine hK.out _ _ (hI.allocH 43).held (fun _ => ?_)
            exact IH (2, true, true) _ _ (by decide) (by kernel_rfl) (by kernel_rfl) _ _ ⟨by decide, _, _, _, _, _, _, rfl, hI.allocH 43⟩
        · obtain ⟨Ao, co, so, ro, rfl, uo, vo, lo⟩ := hI.one
          have VO := Lib.hid vo
          clear vo
          refine wpAnyH_ready (rs := [5]) (by kernel_rfl) (by simp) (AllReadyH.cons rfl (fun K hK => ?_) AllReadyH.nil)
          · go_simp
            refine (badd_any g6 so _ _ _ _ r6 ro _ hI.us uo (by omega) (by omega)).mono ?_
            rintro e w2 ⟨A1, c1, s1, r1, rfl, q1, k1, v1, b1⟩
            dsimp only
            have hN := hI.call3 b1 q1 k1 (by rw [v1, VO.out]) (len_sumI (k := 60) d6 uo.1 l6 (by omega) k1 v1)
            refine hK.out _ _ hN.held (fun _ => ?_)
            exact IH (3, true, true) _ _ (by decide) (by kernel_rfl) (by kernel_rfl) _ _ ⟨by decide, _, _, _, _, _, _, rfl, hN⟩
    · cases p
      · cases q
        · obtain ⟨Ao, co, so, ro, rfl, uo, vo, lo⟩ := hI.sum
          have VO := Lib.hid vo
          clear vo
          refine wpAnyH_ready (rs := [7, 8, 9]) (by kernel_rfl) (by simp) (AllReadyH.cons rfl (fun K hK => ?_) (AllReadyH.cons rfl (fun K hK => ?_) (AllReadyH.cons rfl (fun K hK => ?_) AllReadyH.nil)))
          · go_simp
            refine (bshl_any so _ _ ro n _ uo (by omega)).mono ?_
            rintro e w2 ⟨A1, c1, s1, r1, rfl, q1, k1, v1, b1⟩
            dsimp only
            have hN := hI.call4 b1 q1 k1 (by rw [v1, VO.out]) (lenI_shl uo.1 lo k1 v1)
            refine hK.out _ _ hN.held (fun _ => ?_)
            exact IH (4, false, false) _ _ (by decide) (by kernel_rfl) (by kernel_rfl) _ _ ⟨by decide, _, _, _, _, _, _, rfl, hN⟩
          · go_simp
            refine hK.out _ _ (hI.allocL 43).held (fun _ => ?_)
            exact IH (3, true, false) _ _ (by decide) (by kernel_rfl) (by kernel_rfl) _ _ ⟨by decide, _, _, _, _, _, _, rfl, hI.allocL 43⟩
          · go_simp
            refine hK.out _ _ (hI.allocH 43).held (fun _ => ?_)
            exact IH (3, false, true) _ _ (by decide) (by kernel_rfl) (by kernel_rfl) _ _ ⟨by decide, _, _, _, _, _, _, rfl, hI.allocH 43⟩
        · obtain ⟨Ao, co, so, ro, rfl, uo, vo, lo⟩ := hI.sum
          have VO := Lib.hid vo
          clear vo
          refine wpAnyH_ready (rs := [7, 8]) (by kernel_rfl) (by simp) (AllReadyH.cons rfl (fun K hK => ?_) (AllReadyH.cons rfl (fun K hK => ?_) AllReadyH.nil))
          · go_simp
            refine (bshl_any so _ _ ro n _ uo (by omega)).mono ?_
            rintro e w2 ⟨A1, c1, s1, r1, rfl, q1, k1, v1, b1⟩
            dsimp only
            have hN := hI.call4 b1 q1 k1 (by rw [v1, VO.out]) (lenI_shl uo.1 lo k1 v1)
            refine hK.out _ _ hN.held (fun _ => ?_)
            exact IH (4, false, true) _ _ (by decide) (by kernel_rfl) (by kernel_rfl) _ _ ⟨by decide, _, _, _, _, _, _, rfl, hN⟩
          · go_simp
            refine hK.out _ _ (hI.allocL 43).held (fun _ => ?_)
            exact IH (3, true, true) _ _ (by decide) (by kernel_rfl) (by kernel_rfl) _ _ ⟨by decide, _, _, _, _, _, _, rfl, hI.allocL 43⟩
      · cases q
        · obtain ⟨Ao, co, so, ro, rfl, uo, vo, lo⟩ := hI.sum
          have VO := Lib.hid vo
          clear vo
          refine wpAnyH_ready (rs := [7, 9]) (by kernel_rfl) (by simp) (AllReadyH.cons rfl (fun K hK => ?_) (AllReadyH.cons rfl (fun K hK => ?_) AllReadyH.nil))
          · go_simp
            refine (bshl_any so _ _ ro n _ uo (by omega)).mono ?_
            rintro e w2 ⟨A1, c1, s1, r1, rfl, q1, k1, v1, b1⟩
            dsimp only
            have hN := hI.call4 b1 q1 k1 (by rw [v1, VO.out]) (lenI_shl uo.1 lo k1 v1)
            refine hK.out _ _ hN.held (fun _ => ?_)
            exact IH (4, true, false) _ _ (by decide) (by kernel_rfl) (by kernel_rfl) _ _ ⟨by decide, _, _, _, _, _, _, rfl, hN⟩
          · go_simp
            refine hK.out _ _ (hI.allocH 43).held (fun _ => ?_)
            exact IH (3, true, true) _ _ (by decide) (by kernel_rfl) (by kernel_rfl) _ _ ⟨by decide, _, _, _, _, _, _, rfl, hI.allocH 43⟩
        · obtain ⟨Ao, co, so, ro, rfl, uo, vo, lo⟩ := hI.sum
          have VO := Lib.hid vo
          clear vo
          refine wpAnyH_ready (rs := [7]) (by kernel_rfl) (by simp) (AllReadyH.cons rfl (fun K hK => ?_) AllReadyH.nil)
          · go_simp
            refine (bshl_any so _ _ ro n _ uo (by omega)).mono ?_
            rintro e w2 ⟨A1, c1, s1, r1, rfl, q1, k1, v1, b1⟩
            dsimp only
            have hN := hI.call4 b1 q1 k1 (by rw [v1, VO.out]) (lenI_shl uo.1 lo k1 v1)
            refine hK.out _ _ hN.held (fun _ => ?_)
            exact IH (4, true, true) _ _ (by decide) (by kernel_rfl) (by kernel_rfl) _ _ ⟨by decide, _, _, _, _, _, _, rfl, hN⟩
    · cases p
      · cases q
        · refine wpAnyH_ready (rs := [8, 9]) (by kernel_rfl) (by simp) (AllReadyH.cons rfl (fun K hK => ?_) (AllReadyH.cons rfl (fun K hK => ?_) AllReadyH.nil))
          · go_simp
            refine hK.out _ _ (hI.allocL 43).held (fun _ => ?_)
            exact IH (4, true, false) _ _ (by decide) (by kernel_rfl) (by kernel_rfl) _ _ ⟨by decide, _, _, _, _, _, _, rfl, hI.allocL 43⟩
          · go_simp
            refine hK.out _ _ (hI.allocH 43).held (fun _ => ?_)
            exact IH (4, false, true) _ _ (by decide) (by kernel_rfl) (by kernel_rfl) _ _ ⟨by decide, _, _, _, _, _, _, rfl, hI.allocH 43⟩
        · refine wpAnyH_ready (rs := [8]) (by kernel_rfl) (by simp) (AllReadyH.cons rfl (fun K hK => ?_) AllReadyH.nil)
          · go_simp
            refine hK.out _ _ (hI.allocL 43).held (fun _ => ?_)
            exact IH (4, true, true) _ _ (by decide) (by kernel_rfl) (by kernel_rfl) _ _ ⟨by decide, _, _, _, _, _, _, rfl, hI.allocL 43⟩
      · cases q
        · refine wpAnyH_ready (rs := [9]) (by kernel_rfl) (by simp) (AllReadyH.cons rfl (fun K hK => ?_) AllReadyH.nil)
          · go_simp
            refine hK.out _ _ (hI.allocH 43).held (fun _ => ?_)
            exact IH (4, true, true) _ _ (by decide) (by kernel_rfl) (by kernel_rfl) _ _ ⟨by decide, _, _, _, _, _, _, rfl, hI.allocH 43⟩
        · have hS := hI.held
          obtain ⟨gl, gh, Al, cl, sl, rl, Ah, ch, sh, rh, rfl, rfl, rfl, rfl, bl, bh, ⟨m1, m2, m3, m4, m5, m6⟩, hC⟩ := hI.last (by omega) (by simp only; omega) (by simp only; omega)
          obtain ⟨y1, y2, y3, y4, _⟩ := bl
          obtain ⟨z1, z2, z3, z4, _⟩ := bh
          have HC := Lib.hid hC
          have HS := Lib.hid hS
          clear hI hC hS IH
          refine wpAnyH_ready (rs := [10]) (by kernel_rfl) (by simp) (AllReadyH.cons rfl (fun K hK => ?_) AllReadyH.nil)
          go_simp
          refine hK.out _ _ (cell_set2 m4 HS.out) (fun _ => ?_)
          clear hK K
          refine wpAnyH_ready (rs := [11]) (by kernel_rfl) (by simp) (AllReadyH.cons rfl (fun K hK => ?_) AllReadyH.nil)
          go_simp
          refine hK.out _ _ (cell_set2 m6 (cell_set2 m4 HS.out)) (fun _ => ?_)
          clear hK K
          refine wpAnyH_done (by kernel_rfl) ?_ _
          unfold NormalOnly
          go_wp2_with fail
          go_meet
          exact HC.out
  case rest =>
    obtain ⟨gl, gh, Al, cl, sl, rl, Ah, ch, sh, rh, rfl, rfl, s12, kl, vl, kh, vh, ll, lh⟩ := hcut
    clear s7
    have hv := HV.out
    rw [hv] at vl vh
    have KL := Lib.hid kl
    have VL := Lib.hid vl
    have KH := Lib.hid kh
    have VH := Lib.hid vh
    have HQ := Lib.hid (canon_right K6.out)
    obtain ⟨o1, ho1⟩ : ∃ o, o = ordI (shlI (shrI (ival s xs) n) n) (ival s xs) := ⟨_, rfl⟩
    have o1le : o1 ≤ 0 := by rw [ho1]; exact back_low n0 (by omega)
    have HO1 := Lib.hid ho1
    have HO2 := Lib.hid (back_high (X := ival s xs) n0 (by omega))
    obtain ⟨o3, ho3⟩ : ∃ o, o = ordI (ival s xs) (ival t ys) := ⟨_, rfl⟩
    obtain ⟨ho4, p1, p2⟩ := ord_flip (ival s xs) (ival t ys)
    rw [← ho3] at ho4 p1 p2
    have HO3 := Lib.hid ho3
    have HO4 := Lib.hid ho4
    clear kl vl kh vh hv ho1 ho3 ho4
    go_wp2_with fail
    have s13 := s12.drew
    clear s12
    go_region_held3 (fun w' => w'.cell? ⟨gl, 0, none⟩ = some (.bool sl) ∧ w'.cell? ⟨gl, 1, none⟩ = some (.slice Al rl.length cl) ∧ w'.cell? ⟨gh, 0, none⟩ = some (.bool sh) ∧ w'.cell? ⟨gh, 1, none⟩ = some (.slice Ah rh.length ch) ∧ w'.cell? ⟨q0, 0, none⟩ = some (.bool g6) ∧ w'.cell? ⟨q0, 1, none⟩ = some (.slice A6 r6.length c6) ∧ w'.cell? ⟨w.heap.size + 1, 0, none⟩ = some (.bool t) ∧ w'.cell? ⟨w.heap.size + 1, 1, none⟩ = some (.slice B ys.length d) ∧ w'.cell? ⟨w.heap.size, 0, none⟩ = some (.bool s) ∧ w'.cell? ⟨w.heap.size, 1, none⟩ = some (.slice A xs.length c))
      (exact Sb.held5 (by assumption))
      (first
      | (have _t := s13; go_at_call 46; clear _t; go_loud (refine (badd_any s t _ _ _ _ xs ys _ (s13.get (by simp)) (s13.get (by simp)) (by omega) (by omega)).mono ?_; rintro e w14 ⟨A14, c14, g14, r14, rfl, q, k14, v14, b⟩; have d14 := q.1; have l14 := len_sumI (k := 60) hd kd hn hm k14 v14; have V14 := Lib.hid v14; have K14 := Lib.hid k14; clear v14 k14; have s14 := s13.call b q; clear s13 b q))
      | (have _t := s14; go_at_call 48; clear _t; go_loud (refine (bsub_any g14 t _ _ _ _ r14 ys _ (s14.get (by simp)) (s14.get (by simp)) (by omega) (by omega)).mono ?_; rintro e w15 ⟨A15, c15, g15, r15, rfl, q, k15, v15, b⟩; obtain ⟨rfl, rfl⟩ := uniqI hd q.1 HC.out k15 (by rw [v15, V14.out]; omega); clear k15 v15; have s15 := s14.call b q; clear s14 b q))
      | (have _t := s15; go_at_call 38; clear _t; go_loud (refine (rbsame_any s s _ _ _ _ xs xs _ (s15.get (by simp)) (s15.get (by simp)) (by omega)).mono ?_; rintro e w16 ⟨rfl, b⟩; rw [decide_eq_true (show s = s ∧ xs = xs from ⟨rfl, rfl⟩)]; have s16 := s15.step b; clear s15 b))
      | (have _t := s16; go_at_call 46; clear _t; go_loud (refine (badd_any s t _ _ _ _ xs ys _ (s16.get (by simp)) (s16.get (by simp)) (by omega) (by omega)).mono ?_; rintro e w17 ⟨A17, c17, g17, r17, rfl, q, k17, v17, b⟩; have d17 := q.1; have l17 := len_sumI (k := 60) hd kd hn hm k17 v17; have V17 := Lib.hid v17; have K17 := Lib.hid k17; clear v17 k17; have s17 := s16.call b q; clear s16 b q))
      | (have _t := s17; go_at_call 46; clear _t; go_loud (refine (badd_any t s _ _ _ _ ys xs _ (s17.get (by simp)) (s17.get (by simp)) (by omega) (by omega)).mono ?_; rintro e w18 ⟨A18, c18, g18, r18, rfl, q, k18, v18, b⟩; obtain ⟨rfl, rfl⟩ := uniqI d17 q.1 K17.out k18 (by rw [v18, V17.out]; omega); clear k18 v18; have s18 := s17.call b q; clear s17 b q))
      | (have _t := s18; go_at_call 38; clear _t; go_loud (refine (rbsame_any g17 g17 _ _ _ _ r17 r17 _ (s18.get (by simp)) (s18.get (by simp)) (by omega)).mono ?_; rintro e w19 ⟨rfl, b⟩; rw [decide_eq_true (show g17 = g17 ∧ r17 = r17 from ⟨rfl, rfl⟩)]; have s19 := s18.step b; clear s18 b))
      | (have _t := s19; go_at_call 54; clear _t; go_loud (refine (bshl_any s _ _ xs n _ (s19.get (by simp)) (by omega)).mono ?_; rintro e w20 ⟨A20, c20, g20, r20, rfl, q, k20, v20, b⟩; have d20 := q.1; have l20 := lenI_shl hd hn k20 v20; have V20 := Lib.hid v20; have K20 := Lib.hid k20; clear v20 k20; have s20 := s19.call b q; clear s19 b q))
      | (have _t := s20; go_at_call 56; clear _t; go_loud (refine (bshr_any g20 _ _ r20 n _ (s20.get (by simp)) (by omega) K20.out).mono ?_; rintro e w21 ⟨A21, c21, g21, r21, rfl, q, k21, v21, b⟩; obtain ⟨rfl, rfl⟩ := uniqI hd q.1 HC.out k21 (by rw [v21, V20.out, back_shl n0 (by omega)]); clear k21 v21; have s21 := s20.call b q; clear s20 b q))
      | (have _t := s21; go_at_call 38; clear _t; go_loud (refine (rbsame_any s s _ _ _ _ xs xs _ (s21.get (by simp)) (s21.get (by simp)) (by omega)).mono ?_; rintro e w22 ⟨rfl, b⟩; rw [decide_eq_true (show s = s ∧ xs = xs from ⟨rfl, rfl⟩)]; have s22 := s21.step b; clear s21 b))
      | (have _t := s22; go_at_call 52; clear _t; go_loud (refine (bcmp_any sl s _ _ _ _ rl xs _ (s22.get (by simp)) (s22.get (by simp)) (by omega) (by omega) KL.out HC.out).mono ?_; rintro e w23 ⟨rfl, b⟩; rw [VL.out, ← HO1.out]; have s23 := s22.step b; clear s22 b))
      | (have _t := s23; go_at_call 52; clear _t; go_loud (refine (bcmp_any s sh _ _ _ _ xs rh _ (s23.get (by simp)) (s23.get (by simp)) (by omega) (by omega) HC.out KH.out).mono ?_; rintro e w24 ⟨rfl, b⟩; rw [VH.out, HO2.out]; have s24 := s23.step b; clear s23 b))
      | (have _t := s24; go_at_call 52; clear _t; go_loud (refine (bcmp_any s t _ _ _ _ xs ys _ (s24.get (by simp)) (s24.get (by simp)) (by omega) (by omega) HC.out HD.out).mono ?_; rintro e w25 ⟨rfl, b⟩; rw [← HO3.out]; have s25 := s24.step b; clear s24 b))
      | (have _t := s25; go_at_call 52; clear _t; go_loud (refine (bcmp_any t s _ _ _ _ ys xs _ (s25.get (by simp)) (s25.get (by simp)) (by omega) (by omega) HD.out HC.out).mono ?_; rintro e w26 ⟨rfl, b⟩; rw [← HO4.out]; have hw : IntKind.i64.wrap o3 = o3 := IntWalk.i64_in _ (by omega); have s26 := s25.step b; clear s25 b))
      | (have _t := s26; go_at_call 41; clear _t; go_loud (refine (rbright_any g6 _ _ r6 _ (s26.get (by simp)) (Nat.le_trans l6 (by decide))).mono ?_; rintro e w27 ⟨rfl, b⟩; clear hw; rw [HQ.out]; have s27 := s26.step b; clear s26 b)))
    go_wp2
    go_ret
    exact ⟨rfl, s27.1.1⟩

end Go.Proofs.Ythkeehfoefjnfaa
