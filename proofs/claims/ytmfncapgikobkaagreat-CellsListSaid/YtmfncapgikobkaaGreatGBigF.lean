/-
  LimbBack holds of every input.
  Big numbers in memory: what a call that answers one leaves; signed, sign.
  big: Minus, Shl, Add of the program and of the reference.
  big: Of, Pow, Sub of the program and of the reference.
  big: Sub, Pow, Cmp of the program and of the reference; fromMinusOne.
  big: Right, Same of the program and of the reference; Great; the reference's Shr.
-/
import Derived.Test.YtmfncapgikobkaaGreatGSums
import Derived.Deep.RegionHeld3

namespace Go.Proofs.YtmfncapgikobkaaGreat
set_option maxRecDepth 100000
set_option linter.unusedVariables false
set_option linter.unusedSimpArgs false
open Go.RowKit Num
theorem us_pair (W : World) (u v : Nat) (t : TypeId) (hu : u < 4294967296) (hv : v < 4294967296) : Us (W.alloc (.cells #[.int .u32 (u : Int), .int .u32 (v : Int)] t)) (some ⟨W.heap.size, 0, none⟩) 2 [u, v] := by
 refine ⟨Dig.cons hu (Dig.cons hv Dig.nil), by simp, by simp [maxLen], fun _ => ⟨_, 0, rfl, by simp, fun j x hx => ?_⟩⟩
 have h := heap_alloc_new W (.cells #[.int .u32 (u : Int), .int .u32 (v : Int)] t)
 rw [cell_of_row _ _ _ _ _ _ h]
 simp only [Nat.zero_add, List.map_cons, List.map_nil, List.getElem?_toArray] at hx ⊢
 exact hx
end Go.Proofs.YtmfncapgikobkaaGreat

namespace Go.Proofs.YtmfncapgikobkaaGreat
set_option maxRecDepth 100000
set_option linter.unusedVariables false
set_option linter.unusedSimpArgs false
open Go.RowKit Num
def ival (s : Bool) (xs : List Nat) : Int := if s then -(val xs : Int) else val xs
def CanonI (s : Bool) (xs : List Nat) : Prop := Canon xs ∧ (s = true → xs ≠ [])
def RetI (n : Int) (w : World) (e : Ending) (w' : World) : Prop :=
 ∃ A c s rs, e = .returned (.agg #[.bool s, .slice A rs.length c]) ∧ Us w' A c rs ∧ CanonI s rs ∧ ival s rs = n ∧ Below w.heap.size w w'
theorem ival_nil (s : Bool) : ival s [] = 0 := by cases s <;> rfl
theorem uniqI {s t : Bool} {xs ys : List Nat} (dx : Dig xs) (dy : Dig ys) (hx : CanonI s xs) (hy : CanonI t ys) (h : ival s xs = ival t ys) : s = t ∧ xs = ys := by
 have zx : val xs = 0 → xs = [] := canon_zero hx.1
 have zy : val ys = 0 → ys = [] := canon_zero hy.1
 have hv : val xs = val ys := by
  unfold ival at h
  cases s <;> cases t <;> simp at h <;> omega
 obtain rfl := uniq dx dy hx.1 hy.1 hv
 refine ⟨?_, rfl⟩
 cases s <;> cases t
 ·
  rfl
 ·
  unfold ival at h
  simp at h
  exact absurd (zx (by omega)) (hy.2 rfl)
 ·
  unfold ival at h
  simp at h
  exact absurd (zx (by omega)) (hx.2 rfl)
 ·
  rfl
theorem canonI_of {xs : List Nat} (hc : Canon xs) (s : Bool) : CanonI (s && decide (0 < xs.length)) xs := ⟨hc, fun h => by
 intro e
 subst e
 simp at h⟩
theorem ival_of (xs : List Nat) (s : Bool) : ival (s && decide (0 < xs.length)) xs = ival s xs := by
 cases xs with
 | nil => rw [ival_nil, ival_nil]
 | cons x r => simp
set_option maxRecDepth 100000 in
set_option maxHeartbeats 1600000 in
theorem signed_any (s : Bool) (A : Option Addr) (c : Nat) (xs : List Nat) (w : World) (h : Us w A c xs) (hc : Canon xs) :
  Calls Tryz.prog 76 #[.bool s, .slice A xs.length c] w (RetI (ival s xs) w) := by
 have hcap := h.cap
 have hk := canonI_of hc s
 have hv := ival_of xs s
 have H := Lib.hid (And.intro hk hv)
 clear hk hv
 go_enter Tryz.func76, Tryz.ntmps76
 cases s
 ·
  go_wp2
  refine bodyPost_ret (v := .agg #[.bool false, .slice A xs.length c]) (by simp [results, Tryz.results76, go_sem]) rfl ⟨A, c, _, xs, rfl, h.below (Below.alloc (Below.refl _ _) (Nat.le_refl _) _), H.out.1, H.out.2, Below.alloc (Below.refl _ _) (Nat.le_refl _) _⟩
 ·
  go_wp2
  refine bodyPost_ret (v := .agg #[.bool (decide (0 < xs.length)), .slice A xs.length c]) (by simp [results, Tryz.results76, go_sem]) rfl ⟨A, c, decide (0 < xs.length), xs, rfl, h.below (Below.alloc (Below.refl _ _) (Nat.le_refl _) _), by simpa using H.out.1, by simpa using H.out.2, Below.alloc (Below.refl _ _) (Nat.le_refl _) _⟩
def Box (w : World) (g : Nat) (x y : Value) : Prop :=
 w.cell? ⟨g, 0, none⟩ = some x ∧ w.cell? ⟨g, 1, none⟩ = some y ∧ w.frozen? ⟨g, 0, none⟩ = false ∧ w.frozen? ⟨g, 1, none⟩ = false ∧ g < w.heap.size
theorem Box.new (w : World) (x y : Value) (t : TypeId) : Box (w.alloc (.cells #[x, y] t)) w.heap.size x y := by
 have h := heap_alloc_new w (.cells #[x, y] t)
 exact ⟨by rw [cell_of_row _ _ _ _ _ _ h]; rfl, by rw [cell_of_row _ _ _ _ _ _ h]; rfl, frozen_of_row _ _ _ _ _ h, frozen_of_row _ _ _ _ _ h, by simp⟩
theorem Box.below {w w' : World} {g : Nat} {x y : Value} (h : Box w g x y) (b : Below w.heap.size w w') : Box w' g x y :=
 ⟨(b.cell (p := ⟨g, 0, none⟩) h.2.2.2.2).trans h.1, (b.cell (p := ⟨g, 1, none⟩) h.2.2.2.2).trans h.2.1, (b.frozen (p := ⟨g, 0, none⟩) h.2.2.2.2).trans h.2.2.1, (b.frozen (p := ⟨g, 1, none⟩) h.2.2.2.2).trans h.2.2.2.1, Nat.lt_of_lt_of_le h.2.2.2.2 b.size⟩
theorem Box.alloc {w : World} {g : Nat} {x y : Value} (h : Box w g x y) (o : Obj) : Box (w.alloc o) g x y := h.below ((Below.refl _ w).alloc (Nat.le_refl _) o)
theorem Box.set {w : World} {g : Nat} {x y : Value} (h : Box w g x y) (x' y' : Value) : Box ((w.setCell ⟨g, 0, none⟩ x').setCell ⟨g, 1, none⟩ y') g x' y' := by
 obtain ⟨h1, h2, h3, h4, h5⟩ := h
 have e1 : (w.setCell ⟨g, 0, none⟩ x').cell? ⟨g, 0, none⟩ = some x' := World.cell?_setCell_same' _ _ _ (by rw [h1]; rfl)
 have e2 : (w.setCell ⟨g, 0, none⟩ x').cell? ⟨g, 1, none⟩ = some y := by rw [World.cell?_setCell_other _ _ _ _ (by simp)]; exact h2
 refine ⟨?_, World.cell?_setCell_same' _ _ _ (by rw [e2]; rfl), ?_, ?_, ?_⟩
 ·
  rw [World.cell?_setCell_other _ _ _ _ (by simp)]; exact e1
 ·
  rw [World.frozen?_setCell, World.frozen?_setCell]; exact h3
 ·
  rw [World.frozen?_setCell, World.frozen?_setCell]; exact h4
 ·
  simpa using h5
theorem Us.over {w : World} {A : Option Addr} {c : Nat} {xs : List Nat} (h : Us w A c xs) {g o : Nat} {v0 : Value} (hc : w.cell? ⟨g, o, none⟩ = some v0) (hv : ∀ n, v0 ≠ .int .u32 n) (v : Value) : Us (w.setCell ⟨g, o, none⟩ v) A c xs := by
 refine ⟨h.1, h.2.1, h.2.2.1, fun hn => ?_⟩
 obtain ⟨b, off, e, hb, hr⟩ := h.2.2.2 hn
 refine ⟨b, off, e, by simpa using hb, fun j u hu => ?_⟩
 have hj := hr j u hu
 rw [World.cell?_setCell_other]
 ·
  exact hj
 ·
  intro e2
  rw [← e2, hc] at hj
  cases hj
  rw [List.getElem?_map] at hu
  obtain ⟨n, _, hn'⟩ := Option.map_eq_some_iff.1 hu
  exact hv _ hn'.symm
theorem Us.boxed {w : World} {A : Option Addr} {c : Nat} {xs : List Nat} (h : Us w A c xs) {g : Nat} {s : Bool} {A0 : Option Addr} {n0 c0 : Nat} (hb : Box w g (.bool s) (.slice A0 n0 c0)) (x y : Value) :
  Us ((w.setCell ⟨g, 0, none⟩ x).setCell ⟨g, 1, none⟩ y) A c xs := by
 refine (h.over hb.1 (by simp) x).over (v0 := .slice A0 n0 c0) ?_ (by simp) y
 rw [World.cell?_setCell_other _ _ _ _ (by simp)]
 exact hb.2.1
theorem RetI.box {w w1 : World} {g : Nat} {A A0 : Option Addr} {c n0 c0 : Nat} {s s0 : Bool} {rs : List Nat} {n : Int} (hg : w.heap.size ≤ g) (hb : Box w1 g (.bool s0) (.slice A0 n0 c0)) (q : Us w1 A c rs) (k : CanonI s rs) (v : ival s rs = n) (b : Below w.heap.size w w1) :
  RetI n w (.returned (.agg #[.bool s, .slice A rs.length c])) ((w1.setCell ⟨g, 0, none⟩ (.bool s)).setCell ⟨g, 1, none⟩ (.slice A rs.length c)) :=
 ⟨A, c, s, rs, rfl, q.boxed hb _ _, k, v, (b.setCell (p := ⟨g, 0, none⟩) hg _).setCell (p := ⟨g, 1, none⟩) hg _⟩
set_option maxRecDepth 100000 in
set_option maxHeartbeats 1600000 in
theorem rsign_any (s : Bool) (A : Option Addr) (c : Nat) (xs : List Nat) (w : World) (h : Us w A c xs) (hl : xs.length ≤ 100000) :
  Calls Tryz.prog 54 #[.bool s, .slice A xs.length c] w (RetI (ival s xs) w) := by
 have hcap := h.cap
 have b0 := Lib.hid ((Below.refl w.heap.size w).alloc (Nat.le_refl _) (.cells #[.bool false, .slice none 0 0] 42))
 have H1 := Lib.hid h
 clear h
 go_enter Tryz.func54, Tryz.ntmps54
 cases s
 all_goals
  go_wp2_with (go_at_call 80; refine (rnorm_any _ _ xs _ (H1.out.below b0.out) (by omega)).mono ?_; rintro e w1 ⟨A1, c1, r1, rfl, q, k1, v1, b⟩; have hcap1 := q.cap; obtain ⟨x1, x2, x3, x4, x5⟩ := (Box.new w _ _ _).below b; have HQ := Lib.hid (And.intro q (And.intro k1 (And.intro v1 b))); clear q k1 v1 b)
 all_goals
  have HB := (Box.new w (.bool false) (.slice none 0 0) 42).below HQ.out.2.2.2
  have hw1 : Below w.heap.size w w1 := b0.out.trans (HQ.out.2.2.2.mono (by simp))
  clear x1 x2 x3 x4 x5
 ·
  obtain ⟨e1, e2, _, _, _⟩ := HB.set (.bool false) (.slice A1 r1.length c1)
  refine bodyPost_ret (v := .agg #[.bool false, .slice A1 r1.length c1]) (by simp [results, Tryz.results54, go_sem, e1, e2]) rfl ?_
  exact RetI.box (Nat.le_refl _) HB HQ.out.1 ⟨HQ.out.2.1, by simp⟩ (by unfold ival; simp [HQ.out.2.2.1]) hw1
 ·
  obtain ⟨e1, e2, _, _, _⟩ := HB.set (.bool (decide (0 < r1.length))) (.slice A1 r1.length c1)
  refine bodyPost_ret (v := .agg #[.bool (decide (0 < r1.length)), .slice A1 r1.length c1]) (by simp [results, Tryz.results54, go_sem, e1, e2]) rfl ?_
  refine RetI.box (Nat.le_refl _) HB HQ.out.1 (by simpa using canonI_of HQ.out.2.1 true) ?_ hw1
  have := ival_of r1 true
  simp only [Bool.true_and] at this
  rw [this]
  unfold ival
  simp [HQ.out.2.2.1]
theorem Below.drew' {B : Nat} {w w' : World} (h : Below B w w') : Below B w w'.drew := below_drewN h 1
theorem Box.drew {w : World} {g : Nat} {x y : Value} (h : Box w g x y) : Box w.drew g x y := h.below (Below.drew' (Below.refl _ w))
theorem box1 (w : World) (x y : Value) (t : TypeId) : Box (w.alloc (.cells #[x, y] t)) w.heap.size x y ∧ Below w.heap.size w (w.alloc (.cells #[x, y] t)) := ⟨Box.new w x y t, (Below.refl _ w).alloc (Nat.le_refl _) _⟩
theorem box2 (w : World) (x y x' y' : Value) (t : TypeId) : Box ((w.alloc (.cells #[x, y] t)).alloc (.cells #[x', y'] t)) w.heap.size x y ∧ Box ((w.alloc (.cells #[x, y] t)).alloc (.cells #[x', y'] t)) (w.heap.size + 1) x' y' ∧ Below w.heap.size w ((w.alloc (.cells #[x, y] t)).alloc (.cells #[x', y'] t)) := by
 refine ⟨(Box.new w x y t).alloc _, ?_, (box1 w x y t).2.alloc (by simp) _⟩
 have h := Box.new (w.alloc (.cells #[x, y] t)) x' y' t
 simpa using h
theorem box3 (w : World) (x y x' y' x2 y2 : Value) (t : TypeId) : Box (((w.alloc (.cells #[x, y] t)).alloc (.cells #[x', y'] t)).alloc (.cells #[x2, y2] t)) w.heap.size x y ∧ Box (((w.alloc (.cells #[x, y] t)).alloc (.cells #[x', y'] t)).alloc (.cells #[x2, y2] t)) (w.heap.size + 1) x' y' ∧ Box (((w.alloc (.cells #[x, y] t)).alloc (.cells #[x', y'] t)).alloc (.cells #[x2, y2] t)) (w.heap.size + 1 + 1) x2 y2 ∧ Below w.heap.size w (((w.alloc (.cells #[x, y] t)).alloc (.cells #[x', y'] t)).alloc (.cells #[x2, y2] t)) := by
 obtain ⟨h1, h2, h3⟩ := box2 w x y x' y' t
 refine ⟨h1.alloc _, h2.alloc _, ?_, h3.alloc (by simp; omega) _⟩
 have h := Box.new ((w.alloc (.cells #[x, y] t)).alloc (.cells #[x', y'] t)) x2 y2 t
 simpa using h
set_option maxRecDepth 100000 in
set_option maxHeartbeats 1600000 in
theorem minus_any (s : Bool) (A : Option Addr) (c : Nat) (xs : List Nat) (w : World) (h : Us w A c xs) (hl : xs.length ≤ 100000) :
  Calls Tryz.prog 83 #[.agg #[.bool s, .slice A xs.length c]] w (RetI (-ival s xs) w) := by
 have hcap := h.cap
 obtain ⟨hX, hR, hB⟩ := box2 w (.bool s) (.slice A xs.length c) (.bool false) (.slice none 0 0) 42
 have HX := Lib.hid hX.drew
 have HR := Lib.hid hR.drew
 have HB := Lib.hid (Below.drew' hB)
 have H1 := Lib.hid (h.below HB.out)
 clear h hX hR hB
 go_enter Tryz.func83, Tryz.ntmps83
 go_wp2_with fail
 go_region_held3 (fun w' => w'.cell? ⟨w.heap.size, 0, none⟩ = some (.bool s) ∧ w'.cell? ⟨w.heap.size, 1, none⟩ = some (.slice A xs.length c))
  (first | go_keep | fail)
  (first
   | (go_at_call 79; refine (norm_any _ _ xs _ H1.out (by omega)).mono ?_; rintro e w1 ⟨A1, c1, r1, rfl, q1, k1, v1, b1⟩; obtain ⟨x1, x2, _, _, _⟩ := HX.out.below b1)
   | (go_at_call 76; refine (signed_any (!s) _ _ r1 _ q1 k1).mono ?_; rintro e w2 ⟨A2, c2, s2, r2, rfl, q2, k2, v2, b2⟩; obtain ⟨x1, x2, _, _, _⟩ := (HX.out.below b1).below b2; obtain ⟨y1, y2, y3, y4, _⟩ := (HR.out.below b1).below b2))
 go_wp2
 obtain ⟨e1, e2, _, _, _⟩ := (((HR.out.below b1).below b2).set (.bool s2) (.slice A2 r2.length c2))
 refine bodyPost_ret (v := .agg #[.bool s2, .slice A2 r2.length c2]) (by simp [results, Tryz.results83, go_sem, e1, e2]) rfl ?_
 refine RetI.box (by omega) ((HR.out.below b1).below b2) q2 k2 ?_ ((HB.out.trans (b1.mono HB.out.size)).trans (b2.mono (HB.out.trans (b1.mono HB.out.size)).size))
 rw [v2]
 unfold ival
 rw [v1]
 cases s <;> simp
end Go.Proofs.YtmfncapgikobkaaGreat

namespace Go.Proofs.YtmfncapgikobkaaGreat
set_option maxRecDepth 100000
set_option linter.unusedVariables false
set_option linter.unusedSimpArgs false
open Go.RowKit Num
def shlI (x : Int) (n : Int) : Int := if 0 ≤ n ∧ n ≤ 10000 then x * 2 ^ n.toNat else 0
theorem ival_shl (s : Bool) {xs r : List Nat} {n : Int} (h : val r = shlN (val xs) n) : ival s r = shlI (ival s xs) n := by
 unfold ival shlI
 rw [h]
 unfold shlN
 by_cases hn : 0 ≤ n ∧ n ≤ 10000
 ·
  rw [if_pos hn, if_pos hn]
  cases s <;> simp [Int.neg_mul]
 ·
  rw [if_neg hn, if_neg hn]
  cases s <;> rfl
theorem len_shl {xs r : List Nat} {n : Int} (hd : Dig xs) (hl : xs.length ≤ 60000) (hc : Canon r) (hv : val r = shlN (val xs) n) : r.length ≤ 60313 := by
 obtain ⟨K, hK⟩ : ∃ K, K = 60000 := ⟨_, rfl⟩
 obtain ⟨M, hM⟩ : ∃ M, M = 313 := ⟨_, rfl⟩
 rw [← hK] at hl
 have h3 := Nat.lt_of_lt_of_le (val_lt hd) (Nat.pow_le_pow_right (by decide) hl)
 have h5 : r.length ≤ K + M := by
  refine len_le hc ?_
  rw [hv, Nat.pow_add, pow_32 M]
  generalize (4294967296 : Nat) ^ K = P at *
  unfold shlN
  split
  ·
   rename_i h
   have h4 : 2 ^ n.toNat ≤ 2 ^ (32 * M) := Nat.pow_le_pow_right (by decide) (by omega)
   exact Nat.lt_of_le_of_lt (Nat.mul_le_mul_left _ h4) (Nat.mul_lt_mul_of_pos_right h3 (Nat.two_pow_pos _))
  ·
   exact Nat.mul_pos (by omega) (Nat.two_pow_pos _)
 omega
theorem ival_neg (s : Bool) {xs r : List Nat} (h : val r = val xs) : ival (!s) r = -ival s xs := by
 unfold ival
 rw [h]
 cases s <;> simp
set_option maxRecDepth 100000 in
set_option maxHeartbeats 1600000 in
theorem rminus_any (s : Bool) (A : Option Addr) (c : Nat) (xs : List Nat) (w : World) (h : Us w A c xs) (hl : xs.length ≤ 100000) :
  Calls Tryz.prog 31 #[.agg #[.bool s, .slice A xs.length c]] w (RetI (-ival s xs) w) := by
 have hcap := h.cap
 obtain ⟨hX, hR, hB⟩ := box2 w (.bool s) (.slice A xs.length c) (.bool false) (.slice none 0 0) 42
 have HR := Lib.hid hR
 have HB := Lib.hid hB
 have H1 := Lib.hid (h.below HB.out)
 clear h hX hR hB
 go_enter Tryz.func31, Tryz.ntmps31
 go_wp2_with (go_at_call 54; refine (rsign_any (!s) _ _ xs _ H1.out hl).mono ?_; rintro e w2 ⟨A2, c2, s2, r2, rfl, q2, k2, v2, b2⟩; obtain ⟨y1, y2, y3, y4, _⟩ := HR.out.below b2)
 obtain ⟨e1, e2, _, _, _⟩ := (HR.out.below b2).set (.bool s2) (.slice A2 r2.length c2)
 refine bodyPost_ret (v := .agg #[.bool s2, .slice A2 r2.length c2]) (by simp [results, Tryz.results31, go_sem, e1, e2]) rfl ?_
 exact RetI.box (by omega) (HR.out.below b2) q2 k2 (v2.trans (ival_neg s rfl)) (HB.out.trans (b2.mono HB.out.size))
set_option maxRecDepth 100000 in
set_option maxHeartbeats 1600000 in
theorem bshl_any (s : Bool) (A : Option Addr) (c : Nat) (xs : List Nat) (n : Int) (w : World) (h : Us w A c xs) (hl : xs.length ≤ 100000) :
  Calls Tryz.prog 60 #[.agg #[.bool s, .slice A xs.length c], .int .i64 n] w (RetI (shlI (ival s xs) n) w) := by
 have hcap := h.cap
 obtain ⟨hX, hR, hB⟩ := box2 w (.bool s) (.slice A xs.length c) (.bool false) (.slice none 0 0) 42
 have HX := Lib.hid hX.drew
 have HR := Lib.hid hR.drew
 have HB := Lib.hid (Below.drew' hB)
 have H1 := Lib.hid (h.below HB.out)
 clear h hX hR hB
 go_enter Tryz.func60, Tryz.ntmps60
 go_wp2_with fail
 go_region_held3 (fun w' => w'.cell? ⟨w.heap.size, 0, none⟩ = some (.bool s) ∧ w'.cell? ⟨w.heap.size, 1, none⟩ = some (.slice A xs.length c))
  (first | go_keep | fail)
  (first
   | (go_at_call 84; refine (shl_z _ _ xs n _ H1.out (by omega)).mono ?_; rintro e w1 ⟨A1, c1, r1, rfl, q1, k1, v1, b1⟩; obtain ⟨x1, x2, _, _, _⟩ := HX.out.below b1)
   | (go_at_call 76; refine (signed_any s _ _ r1 _ q1 k1).mono ?_; rintro e w2 ⟨A2, c2, s2, r2, rfl, q2, k2, v2, b2⟩; obtain ⟨x1, x2, _, _, _⟩ := (HX.out.below b1).below b2; obtain ⟨y1, y2, y3, y4, _⟩ := (HR.out.below b1).below b2))
 go_wp2
 obtain ⟨e1, e2, _, _, _⟩ := (((HR.out.below b1).below b2).set (.bool s2) (.slice A2 r2.length c2))
 refine bodyPost_ret (v := .agg #[.bool s2, .slice A2 r2.length c2]) (by simp [results, Tryz.results60, go_sem, e1, e2]) rfl ?_
 exact RetI.box (by omega) ((HR.out.below b1).below b2) q2 k2 (v2.trans (ival_shl s v1)) ((HB.out.trans (b1.mono HB.out.size)).trans (b2.mono (HB.out.trans (b1.mono HB.out.size)).size))
set_option maxRecDepth 100000 in
set_option maxHeartbeats 1600000 in
theorem rbshl_any (s : Bool) (A : Option Addr) (c : Nat) (xs : List Nat) (n : Int) (w : World) (h : Us w A c xs) (hl : xs.length ≤ 60000) :
  Calls Tryz.prog 64 #[.agg #[.bool s, .slice A xs.length c], .int .i64 n] w (RetI (shlI (ival s xs) n) w) := by
 have hcap := h.cap
 obtain ⟨hX, hR, hB⟩ := box2 w (.bool s) (.slice A xs.length c) (.bool false) (.slice none 0 0) 42
 have HX := Lib.hid hX.drew
 have HR := Lib.hid hR.drew
 have HB := Lib.hid (Below.drew' hB)
 have hd := h.1
 have H1 := Lib.hid (h.below HB.out)
 clear h hX hR hB
 go_enter Tryz.func64, Tryz.ntmps64
 go_wp2_with fail
 go_region_held3 (fun w' => w'.cell? ⟨w.heap.size, 0, none⟩ = some (.bool s) ∧ w'.cell? ⟨w.heap.size, 1, none⟩ = some (.slice A xs.length c))
  (first | go_keep | fail)
  (first
   | (go_at_call 90; refine (rshl_z _ _ xs n _ H1.out (by omega)).mono ?_; rintro e w1 ⟨A1, c1, r1, rfl, q1, k1, v1, b1⟩; obtain ⟨x1, x2, _, _, _⟩ := HX.out.below b1)
   | (go_at_call 54; refine (rsign_any s _ _ r1 _ q1 (by have := len_shl hd hl k1 v1; omega)).mono ?_; rintro e w2 ⟨A2, c2, s2, r2, rfl, q2, k2, v2, b2⟩; obtain ⟨x1, x2, _, _, _⟩ := (HX.out.below b1).below b2; obtain ⟨y1, y2, y3, y4, _⟩ := (HR.out.below b1).below b2))
 go_wp2
 obtain ⟨e1, e2, _, _, _⟩ := (((HR.out.below b1).below b2).set (.bool s2) (.slice A2 r2.length c2))
 refine bodyPost_ret (v := .agg #[.bool s2, .slice A2 r2.length c2]) (by simp [results, Tryz.results64, go_sem, e1, e2]) rfl ?_
 exact RetI.box (by omega) ((HR.out.below b1).below b2) q2 k2 (v2.trans (ival_shl s v1)) ((HB.out.trans (b1.mono HB.out.size)).trans (b2.mono (HB.out.trans (b1.mono HB.out.size)).size))
-- ADD --
theorem len_sum {xs ys r : List Nat} (hd : Dig xs) (kd : Dig ys) (hl : xs.length ≤ 60000) (kl : ys.length ≤ 60000) (hc : Canon r) (hv : val r = val xs + val ys) : r.length ≤ 60001 := by
 obtain ⟨K, hK⟩ : ∃ K, K = 60000 := ⟨_, rfl⟩
 rw [← hK] at hl kl
 have h1 := Nat.lt_of_lt_of_le (val_lt hd) (Nat.pow_le_pow_right (by decide) hl)
 have h2 := Nat.lt_of_lt_of_le (val_lt kd) (Nat.pow_le_pow_right (by decide) kl)
 have h3 : r.length ≤ K + 1 := len_le hc (by rw [hv, Nat.pow_succ]; omega)
 omega
theorem len_less {xs r : List Nat} {n : Nat} (hd : Dig xs) (hl : xs.length ≤ 60000) (hc : Canon r) (hv : val r = val xs - n) : r.length ≤ 60000 := by
 obtain ⟨K, hK⟩ : ∃ K, K = 60000 := ⟨_, rfl⟩
 rw [← hK] at hl
 have h1 := Nat.lt_of_lt_of_le (val_lt hd) (Nat.pow_le_pow_right (by decide) hl)
 have h3 : r.length ≤ K := len_le hc (by rw [hv]; omega)
 omega
set_option maxRecDepth 100000 in
set_option maxHeartbeats 1600000 in
theorem badd_same (s : Bool) (A B : Option Addr) (c d : Nat) (xs ys : List Nat) (w : World) (h : Us w A c xs) (k : Us w B d ys) (hl : xs.length ≤ 60000) (kl : ys.length ≤ 60000) :
  Calls Tryz.prog 48 #[.agg #[.bool s, .slice A xs.length c], .agg #[.bool s, .slice B ys.length d]] w (RetI (ival s xs + ival s ys) w) := by
 have hcap := h.cap
 have kcap := k.cap
 obtain ⟨hX, hY, hR, hB⟩ := box3 w (.bool s) (.slice A xs.length c) (.bool s) (.slice B ys.length d) (.bool false) (.slice none 0 0) 42
 have HX := Lib.hid hX.drew
 have HY := Lib.hid hY.drew
 have HR := Lib.hid hR.drew
 have HB := Lib.hid (Below.drew' hB)
 have H1 := Lib.hid (h.below HB.out)
 have H2 := Lib.hid (k.below HB.out)
 have hd := h.1
 have kd := k.1
 clear h k hX hY hR hB
 have n1 : ¬ w.heap.size = w.heap.size + 1 + 1 := by omega
 have n2 : ¬ w.heap.size + 1 + 1 = w.heap.size := by omega
 go_enter Tryz.func48, Tryz.ntmps48
 go_wp2_with fail
 go_region_held3 (fun w' => w'.cell? ⟨w.heap.size, 0, none⟩ = some (.bool s) ∧ w'.cell? ⟨w.heap.size, 1, none⟩ = some (.slice A xs.length c) ∧ w'.cell? ⟨w.heap.size + 1, 1, none⟩ = some (.slice B ys.length d))
  (first | go_keep | fail)
  (first
   | (go_at_call 77; refine (add_any _ _ _ _ xs ys _ H1.out H2.out (by omega) (by omega)).mono ?_; rintro e w1 ⟨A1, c1, r1, rfl, q1, k1, v1, b1⟩; obtain ⟨x1, x2, _, _, _⟩ := HX.out.below b1; obtain ⟨_, z2, _, _, _⟩ := HY.out.below b1; have l1 := len_sum hd kd hl kl k1 v1)
   | (go_at_call 76; refine (signed_any s _ _ r1 _ q1 k1).mono ?_; rintro e w2 ⟨A2, c2, s2, r2, rfl, q2, k2, v2, b2⟩; obtain ⟨x1, x2, _, _, _⟩ := (HX.out.below b1).below b2; obtain ⟨_, z2, _, _, _⟩ := (HY.out.below b1).below b2; obtain ⟨y1, y2, y3, y4, _⟩ := (HR.out.below b1).below b2))
 go_wp2
 obtain ⟨e1, e2, _, _, _⟩ := (((HR.out.below b1).below b2).set (.bool s2) (.slice A2 r2.length c2))
 refine bodyPost_ret (v := .agg #[.bool s2, .slice A2 r2.length c2]) (by simp [results, Tryz.results48, go_sem, e1, e2]) rfl ?_
 refine RetI.box (by omega) ((HR.out.below b1).below b2) q2 k2 (v2.trans ?_) ((HB.out.trans (b1.mono HB.out.size)).trans (b2.mono (HB.out.trans (b1.mono HB.out.size)).size))
 unfold ival
 rw [v1]
 cases s <;> simp <;> omega
set_option maxRecDepth 100000 in
set_option maxHeartbeats 1600000 in
theorem badd_more (s : Bool) (A B : Option Addr) (c d : Nat) (xs ys : List Nat) (w : World) (h : Us w A c xs) (k : Us w B d ys) (hl : xs.length ≤ 60000) (kl : ys.length ≤ 60000) (hle : val ys ≤ val xs) :
  Calls Tryz.prog 48 #[.agg #[.bool s, .slice A xs.length c], .agg #[.bool (!s), .slice B ys.length d]] w (RetI (ival s xs + ival (!s) ys) w) := by
 have hcap := h.cap
 have kcap := k.cap
 obtain ⟨hX, hY, hR, hB⟩ := box3 w (.bool s) (.slice A xs.length c) (.bool (!s)) (.slice B ys.length d) (.bool false) (.slice none 0 0) 42
 have HX := Lib.hid hX
 have HY := Lib.hid hY
 have HR := Lib.hid hR
 have HB := Lib.hid (hB)
 have H1 := Lib.hid (h.below HB.out)
 have H2 := Lib.hid (k.below HB.out)
 have hd := h.1
 have kd := k.1
 clear h k hX hY hR hB
 have n1 : ¬ w.heap.size = w.heap.size + 1 + 1 := by omega
 have n2 : ¬ w.heap.size + 1 + 1 = w.heap.size := by omega
 have HL := Lib.hid hle
 clear hle
 have hst : (s == !s) = false := by cases s <;> rfl
 go_enter Tryz.func48, Tryz.ntmps48
 go_wp2_with (first
  | (go_at_call_of 78 (Value.slice A xs.length c); go_loud (refine (sub_any _ _ _ _ xs ys _ H1.out H2.out (by omega) (by omega)).mono ?_; intro e w1 h; obtain ⟨A1, c1, r1, rfl, q1, k1, v1, b1⟩ := h.2 HL.out; clear h; obtain ⟨x1, x2, _, _, _⟩ := HX.out.below b1; obtain ⟨z1, z2, _, _, _⟩ := HY.out.below b1; have l1 := len_less hd hl k1 v1; have HV := Lib.hid v1; clear v1))
  | (go_at_call 76; go_loud (refine (signed_any s _ _ r1 _ q1 k1).mono ?_; rintro e w2 ⟨A2, c2, s2, r2, rfl, q2, k2, v2, b2⟩; obtain ⟨y1, y2, y3, y4, _⟩ := (HR.out.below b1).below b2; have HV2 := Lib.hid v2; clear v2)))
 obtain ⟨e1, e2, _, _, _⟩ := (((HR.out.below b1).below b2).set (.bool s2) (.slice A2 r2.length c2))
 refine bodyPost_ret (v := .agg #[.bool s2, .slice A2 r2.length c2]) (by simp [results, Tryz.results48, go_sem, e1, e2]) rfl ?_
 refine RetI.box (by omega) ((HR.out.below b1).below b2) q2 k2 (HV2.out.trans ?_) ((HB.out.trans (b1.mono HB.out.size)).trans (b2.mono (HB.out.trans (b1.mono HB.out.size)).size))
 have hle := HL.out
 unfold ival
 rw [HV.out]
 cases s <;> simp <;> omega
set_option maxRecDepth 100000 in
set_option maxHeartbeats 1600000 in
theorem badd_less (s : Bool) (A B : Option Addr) (c d : Nat) (xs ys : List Nat) (w : World) (h : Us w A c xs) (k : Us w B d ys) (hl : xs.length ≤ 60000) (kl : ys.length ≤ 60000) (hle : val xs < val ys) :
  Calls Tryz.prog 48 #[.agg #[.bool s, .slice A xs.length c], .agg #[.bool (!s), .slice B ys.length d]] w (RetI (ival s xs + ival (!s) ys) w) := by
 have hcap := h.cap
 have kcap := k.cap
 obtain ⟨hX, hY, hR, hB⟩ := box3 w (.bool s) (.slice A xs.length c) (.bool (!s)) (.slice B ys.length d) (.bool false) (.slice none 0 0) 42
 have HX := Lib.hid hX
 have HY := Lib.hid hY
 have HR := Lib.hid hR
 have HB := Lib.hid (hB)
 have H1 := Lib.hid (h.below HB.out)
 have H2 := Lib.hid (k.below HB.out)
 have hd := h.1
 have kd := k.1
 clear h k hX hY hR hB
 have n1 : ¬ w.heap.size = w.heap.size + 1 + 1 := by omega
 have n2 : ¬ w.heap.size + 1 + 1 = w.heap.size := by omega
 have HL := Lib.hid hle
 clear hle
 have hst : (s == !s) = false := by cases s <;> rfl
 have tok0 : True := trivial
 go_enter Tryz.func48, Tryz.ntmps48
 go_wp2_with (first
  | (go_at_call 78; have _t := tok0; refine (sub_any A B _ _ xs ys _ H1.out H2.out (by omega) (by omega)).mono ?_; intro e w1 h; obtain ⟨rfl, b1⟩ := h.1 HL.out; clear h tok0 _t; obtain ⟨x1, x2, _, _, _⟩ := HX.out.below b1; obtain ⟨z1, z2, _, _, _⟩ := HY.out.below b1)
  | (go_at_call 78; go_loud (refine (sub_any B A _ _ ys xs _ (H2.out.below b1) (H1.out.below b1) (by omega) (by omega)).mono ?_; intro e w3 h; obtain ⟨A1, c1, r1, rfl, q1, k1, v1, b3⟩ := h.2 (Nat.le_of_lt HL.out); clear h x1 x2 z1 z2; obtain ⟨x1, x2, _, _, _⟩ := (HX.out.below b1).below b3; obtain ⟨z1, z2, _, _, _⟩ := (HY.out.below b1).below b3; have l1 := len_less kd kl k1 v1; have HV := Lib.hid v1; clear v1))
  | (go_at_call 76; go_loud (refine (signed_any (!s) _ _ r1 _ q1 k1).mono ?_; rintro e w2 ⟨A2, c2, s2, r2, rfl, q2, k2, v2, b2⟩; obtain ⟨y1, y2, y3, y4, _⟩ := ((HR.out.below b1).below b3).below b2; have HV2 := Lib.hid v2; clear v2)))
 obtain ⟨e1, e2, _, _, _⟩ := ((((HR.out.below b1).below b3).below b2).set (.bool s2) (.slice A2 r2.length c2))
 refine bodyPost_ret (v := .agg #[.bool s2, .slice A2 r2.length c2]) (by simp [results, Tryz.results48, go_sem, e1, e2]) rfl ?_
 have hb1 := HB.out.trans (b1.mono HB.out.size)
 have hb3 := hb1.trans (b3.mono hb1.size)
 refine RetI.box (by omega) (((HR.out.below b1).below b3).below b2) q2 k2 (HV2.out.trans ?_) (hb3.trans (b2.mono hb3.size))
 have hle := HL.out
 unfold ival
 rw [HV.out]
 cases s <;> simp <;> omega
theorem badd_any (s t : Bool) (A B : Option Addr) (c d : Nat) (xs ys : List Nat) (w : World) (h : Us w A c xs) (k : Us w B d ys) (hl : xs.length ≤ 60000) (kl : ys.length ≤ 60000) :
  Calls Tryz.prog 48 #[.agg #[.bool s, .slice A xs.length c], .agg #[.bool t, .slice B ys.length d]] w (RetI (ival s xs + ival t ys) w) := by
 by_cases hst : s = t
 ·
  subst hst
  exact badd_same s A B c d xs ys w h k hl kl
 ·
  obtain rfl : t = !s := by cases s <;> cases t <;> simp_all
  rcases Nat.lt_or_ge (val xs) (val ys) with hlt | hge
  ·
   exact badd_less s A B c d xs ys w h k hl kl hlt
  ·
   exact badd_more s A B c d xs ys w h k hl kl hge
set_option maxRecDepth 100000 in
set_option maxHeartbeats 1600000 in
theorem rbadd_same (s : Bool) (A B : Option Addr) (c d : Nat) (xs ys : List Nat) (w : World) (h : Us w A c xs) (k : Us w B d ys) (hl : xs.length ≤ 60000) (kl : ys.length ≤ 60000) :
  Calls Tryz.prog 65 #[.agg #[.bool s, .slice A xs.length c], .agg #[.bool s, .slice B ys.length d]] w (RetI (ival s xs + ival s ys) w) := by
 have hcap := h.cap
 have kcap := k.cap
 obtain ⟨hX, hY, hR, hB⟩ := box3 w (.bool s) (.slice A xs.length c) (.bool s) (.slice B ys.length d) (.bool false) (.slice none 0 0) 42
 have HX := Lib.hid hX.drew
 have HY := Lib.hid hY.drew
 have HR := Lib.hid hR.drew
 have HB := Lib.hid (Below.drew' hB)
 have H1 := Lib.hid (h.below HB.out)
 have H2 := Lib.hid (k.below HB.out)
 have hd := h.1
 have kd := k.1
 clear h k hX hY hR hB
 have n1 : ¬ w.heap.size = w.heap.size + 1 + 1 := by omega
 have n2 : ¬ w.heap.size + 1 + 1 = w.heap.size := by omega
 go_enter Tryz.func65, Tryz.ntmps65
 go_wp2_with fail
 go_region_held3 (fun w' => w'.cell? ⟨w.heap.size, 0, none⟩ = some (.bool s) ∧ w'.cell? ⟨w.heap.size, 1, none⟩ = some (.slice A xs.length c) ∧ w'.cell? ⟨w.heap.size + 1, 1, none⟩ = some (.slice B ys.length d))
  (first | go_keep | fail)
  (first
   | (go_at_call 91; refine (radd_any _ _ _ _ xs ys _ H1.out H2.out (by omega) (by omega)).mono ?_; rintro e w1 ⟨A1, c1, r1, rfl, q1, k1, v1, b1⟩; obtain ⟨x1, x2, _, _, _⟩ := HX.out.below b1; obtain ⟨_, z2, _, _, _⟩ := HY.out.below b1; have l1 := len_sum hd kd hl kl k1 v1)
   | (go_at_call 54; refine (rsign_any s _ _ r1 _ q1 (by omega)).mono ?_; rintro e w2 ⟨A2, c2, s2, r2, rfl, q2, k2, v2, b2⟩; obtain ⟨x1, x2, _, _, _⟩ := (HX.out.below b1).below b2; obtain ⟨_, z2, _, _, _⟩ := (HY.out.below b1).below b2; obtain ⟨y1, y2, y3, y4, _⟩ := (HR.out.below b1).below b2))
 go_wp2
 obtain ⟨e1, e2, _, _, _⟩ := (((HR.out.below b1).below b2).set (.bool s2) (.slice A2 r2.length c2))
 refine bodyPost_ret (v := .agg #[.bool s2, .slice A2 r2.length c2]) (by simp [results, Tryz.results65, go_sem, e1, e2]) rfl ?_
 refine RetI.box (by omega) ((HR.out.below b1).below b2) q2 k2 (v2.trans ?_) ((HB.out.trans (b1.mono HB.out.size)).trans (b2.mono (HB.out.trans (b1.mono HB.out.size)).size))
 unfold ival
 rw [v1]
 cases s <;> simp <;> omega
set_option maxRecDepth 100000 in
set_option maxHeartbeats 1600000 in
theorem rbadd_more (s : Bool) (A B : Option Addr) (c d : Nat) (xs ys : List Nat) (w : World) (h : Us w A c xs) (k : Us w B d ys) (hl : xs.length ≤ 60000) (kl : ys.length ≤ 60000) (hle : val ys ≤ val xs) :
  Calls Tryz.prog 65 #[.agg #[.bool s, .slice A xs.length c], .agg #[.bool (!s), .slice B ys.length d]] w (RetI (ival s xs + ival (!s) ys) w) := by
 have hcap := h.cap
 have kcap := k.cap
 obtain ⟨hX, hY, hR, hB⟩ := box3 w (.bool s) (.slice A xs.length c) (.bool (!s)) (.slice B ys.length d) (.bool false) (.slice none 0 0) 42
 have HX := Lib.hid hX
 have HY := Lib.hid hY
 have HR := Lib.hid hR
 have HB := Lib.hid (hB)
 have H1 := Lib.hid (h.below HB.out)
 have H2 := Lib.hid (k.below HB.out)
 have hd := h.1
 have kd := k.1
 clear h k hX hY hR hB
 have n1 : ¬ w.heap.size = w.heap.size + 1 + 1 := by omega
 have n2 : ¬ w.heap.size + 1 + 1 = w.heap.size := by omega
 have HL := Lib.hid hle
 clear hle
 have hst : (s == !s) = false := by cases s <;> rfl
 go_enter Tryz.func65, Tryz.ntmps65
 go_wp2_with (first
  | (go_at_call_of 92 (Value.slice A xs.length c); go_loud (refine (rsub_any _ _ _ _ xs ys _ H1.out H2.out (by omega) (by omega)).mono ?_; intro e w1 h; obtain ⟨A1, c1, r1, rfl, q1, k1, v1, b1⟩ := h.2 HL.out; clear h; obtain ⟨x1, x2, _, _, _⟩ := HX.out.below b1; obtain ⟨z1, z2, _, _, _⟩ := HY.out.below b1; have l1 := len_less hd hl k1 v1; have HV := Lib.hid v1; clear v1))
  | (go_at_call 54; go_loud (refine (rsign_any s _ _ r1 _ q1 (by omega)).mono ?_; rintro e w2 ⟨A2, c2, s2, r2, rfl, q2, k2, v2, b2⟩; obtain ⟨y1, y2, y3, y4, _⟩ := (HR.out.below b1).below b2; have HV2 := Lib.hid v2; clear v2)))
 obtain ⟨e1, e2, _, _, _⟩ := (((HR.out.below b1).below b2).set (.bool s2) (.slice A2 r2.length c2))
 refine bodyPost_ret (v := .agg #[.bool s2, .slice A2 r2.length c2]) (by simp [results, Tryz.results65, go_sem, e1, e2]) rfl ?_
 refine RetI.box (by omega) ((HR.out.below b1).below b2) q2 k2 (HV2.out.trans ?_) ((HB.out.trans (b1.mono HB.out.size)).trans (b2.mono (HB.out.trans (b1.mono HB.out.size)).size))
 have hle := HL.out
 unfold ival
 rw [HV.out]
 cases s <;> simp <;> omega
set_option maxRecDepth 100000 in
set_option maxHeartbeats 1600000 in
theorem rbadd_less (s : Bool) (A B : Option Addr) (c d : Nat) (xs ys : List Nat) (w : World) (h : Us w A c xs) (k : Us w B d ys) (hl : xs.length ≤ 60000) (kl : ys.length ≤ 60000) (hle : val xs < val ys) :
  Calls Tryz.prog 65 #[.agg #[.bool s, .slice A xs.length c], .agg #[.bool (!s), .slice B ys.length d]] w (RetI (ival s xs + ival (!s) ys) w) := by
 have hcap := h.cap
 have kcap := k.cap
 obtain ⟨hX, hY, hR, hB⟩ := box3 w (.bool s) (.slice A xs.length c) (.bool (!s)) (.slice B ys.length d) (.bool false) (.slice none 0 0) 42
 have HX := Lib.hid hX
 have HY := Lib.hid hY
 have HR := Lib.hid hR
 have HB := Lib.hid (hB)
 have H1 := Lib.hid (h.below HB.out)
 have H2 := Lib.hid (k.below HB.out)
 have hd := h.1
 have kd := k.1
 clear h k hX hY hR hB
 have n1 : ¬ w.heap.size = w.heap.size + 1 + 1 := by omega
 have n2 : ¬ w.heap.size + 1 + 1 = w.heap.size := by omega
 have HL := Lib.hid hle
 clear hle
 have hst : (s == !s) = false := by cases s <;> rfl
 have tok0 : True := trivial
 go_enter Tryz.func65, Tryz.ntmps65
 go_wp2_with (first
  | (go_at_call 92; have _t := tok0; refine (rsub_any A B _ _ xs ys _ H1.out H2.out (by omega) (by omega)).mono ?_; intro e w1 h; obtain ⟨rfl, b1⟩ := h.1 HL.out; clear h tok0 _t; obtain ⟨x1, x2, _, _, _⟩ := HX.out.below b1; obtain ⟨z1, z2, _, _, _⟩ := HY.out.below b1)
  | (go_at_call 92; go_loud (refine (rsub_any B A _ _ ys xs _ (H2.out.below b1) (H1.out.below b1) (by omega) (by omega)).mono ?_; intro e w3 h; obtain ⟨A1, c1, r1, rfl, q1, k1, v1, b3⟩ := h.2 (Nat.le_of_lt HL.out); clear h x1 x2 z1 z2; obtain ⟨x1, x2, _, _, _⟩ := (HX.out.below b1).below b3; obtain ⟨z1, z2, _, _, _⟩ := (HY.out.below b1).below b3; have l1 := len_less kd kl k1 v1; have HV := Lib.hid v1; clear v1))
  | (go_at_call 54; go_loud (refine (rsign_any (!s) _ _ r1 _ q1 (by omega)).mono ?_; rintro e w2 ⟨A2, c2, s2, r2, rfl, q2, k2, v2, b2⟩; obtain ⟨y1, y2, y3, y4, _⟩ := ((HR.out.below b1).below b3).below b2; have HV2 := Lib.hid v2; clear v2)))
 obtain ⟨e1, e2, _, _, _⟩ := ((((HR.out.below b1).below b3).below b2).set (.bool s2) (.slice A2 r2.length c2))
 refine bodyPost_ret (v := .agg #[.bool s2, .slice A2 r2.length c2]) (by simp [results, Tryz.results65, go_sem, e1, e2]) rfl ?_
 have hb1 := HB.out.trans (b1.mono HB.out.size)
 have hb3 := hb1.trans (b3.mono hb1.size)
 refine RetI.box (by omega) (((HR.out.below b1).below b3).below b2) q2 k2 (HV2.out.trans ?_) (hb3.trans (b2.mono hb3.size))
 have hle := HL.out
 unfold ival
 rw [HV.out]
 cases s <;> simp <;> omega
theorem rbadd_any (s t : Bool) (A B : Option Addr) (c d : Nat) (xs ys : List Nat) (w : World) (h : Us w A c xs) (k : Us w B d ys) (hl : xs.length ≤ 60000) (kl : ys.length ≤ 60000) :
  Calls Tryz.prog 65 #[.agg #[.bool s, .slice A xs.length c], .agg #[.bool t, .slice B ys.length d]] w (RetI (ival s xs + ival t ys) w) := by
 by_cases hst : s = t
 ·
  subst hst
  exact rbadd_same s A B c d xs ys w h k hl kl
 ·
  obtain rfl : t = !s := by cases s <;> cases t <;> simp_all
  rcases Nat.lt_or_ge (val xs) (val ys) with hlt | hge
  ·
   exact rbadd_less s A B c d xs ys w h k hl kl hlt
  ·
   exact rbadd_more s A B c d xs ys w h k hl kl hge
end Go.Proofs.YtmfncapgikobkaaGreat

namespace Go.Proofs.YtmfncapgikobkaaGreat
set_option maxRecDepth 100000
set_option linter.unusedVariables false
set_option linter.unusedSimpArgs false
open Go.RowKit Num
theorem us_pairI (W : World) (u v : Int) (U V : Nat) (t : TypeId) (hu : u = (U : Int)) (hv : v = (V : Int)) (lu : U < 4294967296) (lv : V < 4294967296) :
  Us (W.alloc (.cells #[.int .u32 u, .int .u32 v] t)) (some ⟨W.heap.size, 0, none⟩) 2 [U, V] := by
 subst hu hv
 exact us_pair W U V t lu lv
theorem us_pairJ (w : World) (o : Obj) (u v : Int) (U V : Nat) (t : TypeId) (hu : u = (U : Int)) (hv : v = (V : Int)) (lu : U < 4294967296) (lv : V < 4294967296) :
  Us ((w.alloc o).alloc (.cells #[.int .u32 u, .int .u32 v] t)) (some ⟨w.heap.size + 1, 0, none⟩) 2 [U, V] := by
 have h := us_pairI (w.alloc o) u v U V t hu hv lu lv
 have e : (w.alloc o).heap.size = w.heap.size + 1 := by simp
 rw [e] at h
 exact h
theorem wrap_min (n : Int) (h0 : -9223372036854775808 ≤ n) (h1 : n < 0) : IntKind.u64.wrap (-IntKind.u64.wrap n) = -n := by
 simp [IntKind.wrap, IntKind.bits, IntKind.signed]
 omega
theorem wrap_min_lo (n : Int) (m : Nat) (h0 : -9223372036854775808 ≤ n) (h1 : n < 0) (hm : m = n.natAbs) : IntKind.u64.wrap (-IntKind.u64.wrap n) % 4294967296 = ((m % 4294967296 : Nat) : Int) := by
 rw [wrap_min n h0 h1]
 omega
theorem wrap_min_hi (n : Int) (m : Nat) (h0 : -9223372036854775808 ≤ n) (h1 : n < 0) (hm : m = n.natAbs) : IntKind.u64.wrap (-IntKind.u64.wrap n) / 4294967296 % 4294967296 = ((m / 4294967296 : Nat) : Int) := by
 rw [wrap_min n h0 h1]
 omega
theorem wrap_min_lo2 (n : Int) (m : Nat) (h0 : -9223372036854775808 ≤ n) (h1 : n < 0) (hm : m = n.natAbs) : (IntKind.u64.wrap (-IntKind.u64.wrap n)).tmod 4294967296 % 4294967296 = ((m % 4294967296 : Nat) : Int) := by
 rw [wrap_min n h0 h1, Int.tmod_eq_emod_of_nonneg (by omega)]
 omega
theorem wrap_min_hi2 (n : Int) (m : Nat) (h0 : -9223372036854775808 ≤ n) (h1 : n < 0) (hm : m = n.natAbs) : IntKind.u64.wrap ((IntKind.u64.wrap (-IntKind.u64.wrap n)).tdiv 4294967296) % 4294967296 = ((m / 4294967296 : Nat) : Int) := by
 rw [wrap_min n h0 h1, Int.tdiv_eq_ediv_of_nonneg (by omega), IntWalk.u64_in _ (by omega)]
 omega
theorem val_two (m : Nat) : val [m % 4294967296, m / 4294967296] = m := by
 simp only [val]
 omega
theorem ival_int {n : Int} {m : Nat} {r : List Nat} (hm : m = n.natAbs) (h : val r = val [m % 4294967296, m / 4294967296]) : ival (decide (n < 0)) r = n := by
 rw [val_two] at h
 unfold ival
 rw [h]
 by_cases hn : n < 0 <;> simp [hn] <;> omega
set_option maxRecDepth 100000 in
set_option maxHeartbeats 1600000 in
theorem bof_any (n : Int) (w : World) (h0 : -9223372036854775808 ≤ n) (h1 : n ≤ 9223372036854775807) :
  Calls Tryz.prog 49 #[.int .i64 n] w (RetI n w) := by
 obtain ⟨m, hm⟩ : ∃ m, m = n.natAbs := ⟨_, rfl⟩
 have lu : m % 4294967296 < 4294967296 := Nat.mod_lt _ (by decide)
 have lv : m / 4294967296 < 4294967296 := by omega
 obtain ⟨hR, hB⟩ := box1 w (.bool false) (.slice none 0 0) 42
 have HR := Lib.hid hR
 have HB := Lib.hid hB
 have HM := Lib.hid hm
 clear hR hB
 by_cases hn : 0 ≤ n
 ·
  have HL := Lib.hid (show n % 4294967296 = ((m % 4294967296 : Nat) : Int) by omega)
  have HH := Lib.hid (show n / 4294967296 = ((m / 4294967296 : Nat) : Int) by omega)
  clear hm lu lv
  have HU := Lib.hid (us_pairJ w (.cells #[.bool false, .slice none 0 0] 42) _ _ _ _ 89 HL.out HH.out (Nat.mod_lt _ (by decide)) (by have := HM.out; omega))
  clear HL HH
  go_enter Tryz.func49, Tryz.ntmps49
  go_wp2_with (first
   | (go_at_call 79; go_loud (refine (norm_any _ _ [m % 4294967296, m / 4294967296] _ HU.out (by simp)).mono ?_; rintro e w1 ⟨A1, c1, r1, rfl, q1, k1, v1, b1⟩; obtain ⟨x1, x2, x3, x4, _⟩ := (HR.out.alloc _).below b1; have HV := Lib.hid v1; clear v1))
   | (go_at_call 76; refine (signed_any _ _ _ r1 _ q1 k1).mono ?_; rintro e w2 ⟨A2, c2, s2, r2, rfl, q2, k2, v2, b2⟩; obtain ⟨y1, y2, y3, y4, _⟩ := ((HR.out.alloc _).below b1).below b2; have HV2 := Lib.hid v2; clear v2))
  obtain ⟨e1, e2, _, _, _⟩ := ((((HR.out.alloc _).below b1).below b2).set (.bool s2) (.slice A2 r2.length c2))
  refine bodyPost_ret (v := .agg #[.bool s2, .slice A2 r2.length c2]) (by simp [results, Tryz.results49, go_sem, e1, e2]) rfl ?_
  have hb1 := (HB.out.alloc (by simp) _).trans (b1.mono (by simp <;> omega))
  exact RetI.box (by omega) (((HR.out.alloc _).below b1).below b2) q2 k2 (HV2.out.trans (ival_int HM.out HV.out)) (hb1.trans (b2.mono hb1.size))
 ·
  have HL := Lib.hid (wrap_min_lo n m h0 (by omega) hm)
  have HH := Lib.hid (wrap_min_hi n m h0 (by omega) hm)
  clear hm lu lv
  have HU := Lib.hid (us_pairJ w (.cells #[.bool false, .slice none 0 0] 42) _ _ _ _ 89 HL.out HH.out (Nat.mod_lt _ (by decide)) (by have := HM.out; omega))
  clear HL HH
  go_enter Tryz.func49, Tryz.ntmps49
  go_wp2_with (first
   | (go_at_call 79; go_loud (refine (norm_any _ _ [m % 4294967296, m / 4294967296] _ HU.out (by simp)).mono ?_; rintro e w1 ⟨A1, c1, r1, rfl, q1, k1, v1, b1⟩; obtain ⟨x1, x2, x3, x4, _⟩ := (HR.out.alloc _).below b1; have HV := Lib.hid v1; clear v1))
   | (go_at_call 76; refine (signed_any true _ _ r1 _ q1 k1).mono ?_; rintro e w2 ⟨A2, c2, s2, r2, rfl, q2, k2, v2, b2⟩; obtain ⟨y1, y2, y3, y4, _⟩ := ((HR.out.alloc _).below b1).below b2; have HV2 := Lib.hid v2; clear v2))
  obtain ⟨e1, e2, _, _, _⟩ := ((((HR.out.alloc _).below b1).below b2).set (.bool s2) (.slice A2 r2.length c2))
  refine bodyPost_ret (v := .agg #[.bool s2, .slice A2 r2.length c2]) (by simp [results, Tryz.results49, go_sem, e1, e2]) rfl ?_
  have hb1 := (HB.out.alloc (by simp) _).trans (b1.mono (by simp <;> omega))
  have hi := ival_int HM.out HV.out
  rw [decide_eq_true (by omega)] at hi
  exact RetI.box (by omega) (((HR.out.alloc _).below b1).below b2) q2 k2 (HV2.out.trans hi) (hb1.trans (b2.mono hb1.size))
set_option maxRecDepth 100000 in
set_option maxHeartbeats 1600000 in
theorem rbof_any (n : Int) (w : World) (h0 : -9223372036854775808 ≤ n) (h1 : n ≤ 9223372036854775807) :
  Calls Tryz.prog 22 #[.int .i64 n] w (RetI n w) := by
 obtain ⟨m, hm⟩ : ∃ m, m = n.natAbs := ⟨_, rfl⟩
 obtain ⟨hR, hB⟩ := box1 w (.bool false) (.slice none 0 0) 42
 have HR := Lib.hid hR
 have HB := Lib.hid hB
 have HM := Lib.hid hm
 clear hR hB
 by_cases hn : 0 ≤ n
 ·
  have HL := Lib.hid (show n % 4294967296 = ((m % 4294967296 : Nat) : Int) by omega)
  have HH := Lib.hid (show n / 4294967296 = ((m / 4294967296 : Nat) : Int) by omega)
  clear hm
  have HU := Lib.hid (us_pairJ w (.cells #[.bool false, .slice none 0 0] 42) _ _ _ _ 89 HL.out HH.out (Nat.mod_lt _ (by decide)) (by have := HM.out; omega))
  clear HL HH
  go_enter Tryz.func22, Tryz.ntmps22
  go_wp2_with (go_at_call 54; refine (rsign_any _ _ _ [m % 4294967296, m / 4294967296] _ HU.out (by simp)).mono ?_; rintro e w2 ⟨A2, c2, s2, r2, rfl, q2, k2, v2, b2⟩; obtain ⟨y1, y2, y3, y4, _⟩ := (HR.out.alloc _).below b2; have HV2 := Lib.hid v2; clear v2)
  obtain ⟨e1, e2, _, _, _⟩ := (((HR.out.alloc _).below b2).set (.bool s2) (.slice A2 r2.length c2))
  refine bodyPost_ret (v := .agg #[.bool s2, .slice A2 r2.length c2]) (by simp [results, Tryz.results22, go_sem, e1, e2]) rfl ?_
  exact RetI.box (by omega) ((HR.out.alloc _).below b2) q2 k2 (HV2.out.trans (ival_int HM.out rfl)) ((HB.out.alloc (by simp) _).trans (b2.mono (by simp <;> omega)))
 ·
  have HL := Lib.hid (wrap_min_lo2 n m h0 (by omega) hm)
  have HH := Lib.hid (wrap_min_hi2 n m h0 (by omega) hm)
  clear hm
  have HU := Lib.hid (us_pairJ w (.cells #[.bool false, .slice none 0 0] 42) _ _ _ _ 89 HL.out HH.out (Nat.mod_lt _ (by decide)) (by have := HM.out; omega))
  clear HL HH
  go_enter Tryz.func22, Tryz.ntmps22
  go_wp2_with (go_at_call 54; refine (rsign_any true _ _ [m % 4294967296, m / 4294967296] _ HU.out (by simp)).mono ?_; rintro e w2 ⟨A2, c2, s2, r2, rfl, q2, k2, v2, b2⟩; obtain ⟨y1, y2, y3, y4, _⟩ := (HR.out.alloc _).below b2; have HV2 := Lib.hid v2; clear v2)
  obtain ⟨e1, e2, _, _, _⟩ := (((HR.out.alloc _).below b2).set (.bool s2) (.slice A2 r2.length c2))
  refine bodyPost_ret (v := .agg #[.bool s2, .slice A2 r2.length c2]) (by simp [results, Tryz.results22, go_sem, e1, e2]) rfl ?_
  have hi := ival_int (n := n) HM.out rfl
  rw [decide_eq_true (by omega)] at hi
  exact RetI.box (by omega) ((HR.out.alloc _).below b2) q2 k2 (HV2.out.trans hi) ((HB.out.alloc (by simp) _).trans (b2.mono (by simp <;> omega)))
end Go.Proofs.YtmfncapgikobkaaGreat

namespace Go.Proofs.YtmfncapgikobkaaGreat
set_option maxRecDepth 100000
set_option linter.unusedVariables false
set_option linter.unusedSimpArgs false
open Go.RowKit Num
theorem val_ival (s : Bool) (r : List Nat) : val r = (ival s r).natAbs := by
 unfold ival
 cases s <;> simp
theorem len_ival {s : Bool} {r : List Nat} {n : Int} (hc : CanonI s r) (hv : ival s r = n) (k : Nat) (hn : n.natAbs < 4294967296 ^ k) : r.length ≤ k :=
 len_le hc.1 (by rw [val_ival s r, hv]; exact hn)
theorem abs_of_len {s : Bool} {xs : List Nat} (hd : Dig xs) {k : Nat} (hl : xs.length ≤ k) : (ival s xs).natAbs < 4294967296 ^ k := by
 rw [← val_ival]
 exact Nat.lt_of_lt_of_le (val_lt hd) (Nat.pow_le_pow_right (by decide) hl)
theorem len_neg {s t : Bool} {r ys : List Nat} (kd : Dig ys) (hc : CanonI s r) (hv : ival s r = -ival t ys) : r.length ≤ ys.length :=
 len_ival hc hv _ (by rw [Int.natAbs_neg, ← val_ival]; exact val_lt kd)
theorem ret_int {k : IntKind} {a b : Int} (h : a = b) : Ending.returned (.int k a) = .returned (.int k b) := by rw [h]
def ordI (a b : Int) : Int := if a < b then -1 else if a = b then 0 else 1
set_option maxRecDepth 100000 in
set_option maxHeartbeats 1600000 in
theorem rbsub_any (s t : Bool) (A B : Option Addr) (c d : Nat) (xs ys : List Nat) (w : World) (h : Us w A c xs) (k : Us w B d ys) (hl : xs.length ≤ 60000) (kl : ys.length ≤ 60000) :
  Calls Tryz.prog 75 #[.agg #[.bool s, .slice A xs.length c], .agg #[.bool t, .slice B ys.length d]] w (RetI (ival s xs - ival t ys) w) := by
 have hcap := h.cap
 have kcap := k.cap
 obtain ⟨hX, hY, hR, hB⟩ := box3 w (.bool s) (.slice A xs.length c) (.bool t) (.slice B ys.length d) (.bool false) (.slice none 0 0) 42
 have HX := Lib.hid hX.drew
 have HY := Lib.hid hY.drew
 have HR := Lib.hid hR.drew
 have HB := Lib.hid (Below.drew' hB)
 have H1 := Lib.hid (h.below HB.out)
 have H2 := Lib.hid (k.below HB.out)
 have kd := k.1
 clear h k hX hY hR hB
 have n1 : ¬ w.heap.size = w.heap.size + 1 + 1 := by omega
 have n2 : ¬ w.heap.size + 1 + 1 = w.heap.size := by omega
 go_enter Tryz.func75, Tryz.ntmps75
 go_wp2_with fail
 go_region_held3 (fun w' => w'.cell? ⟨w.heap.size, 0, none⟩ = some (.bool s) ∧ w'.cell? ⟨w.heap.size, 1, none⟩ = some (.slice A xs.length c) ∧ w'.cell? ⟨w.heap.size + 1, 0, none⟩ = some (.bool t) ∧ w'.cell? ⟨w.heap.size + 1, 1, none⟩ = some (.slice B ys.length d))
  (first | go_keep | fail)
  (first
   | (go_at_call 31; refine (rminus_any t _ _ ys _ H2.out (by omega)).mono ?_; rintro e w1 ⟨A1, c1, s1, r1, rfl, q1, k1, v1, b1⟩; obtain ⟨x1, x2, _, _, _⟩ := HX.out.below b1; obtain ⟨z1, z2, _, _, _⟩ := HY.out.below b1; have l1 : r1.length ≤ 60000 := Nat.le_trans (len_neg kd k1 v1) kl)
   | (go_at_call 65; refine (rbadd_any s s1 _ _ _ _ xs r1 _ (H1.out.below b1) q1 hl l1).mono ?_; rintro e w2 ⟨A2, c2, s2, r2, rfl, q2, k2, v2, b2⟩; obtain ⟨x1, x2, _, _, _⟩ := (HX.out.below b1).below b2; obtain ⟨z1, z2, _, _, _⟩ := (HY.out.below b1).below b2; obtain ⟨y1, y2, y3, y4, _⟩ := (HR.out.below b1).below b2))
 go_wp2
 obtain ⟨e1, e2, _, _, _⟩ := (((HR.out.below b1).below b2).set (.bool s2) (.slice A2 r2.length c2))
 refine bodyPost_ret (v := .agg #[.bool s2, .slice A2 r2.length c2]) (by simp [results, Tryz.results75, go_sem, e1, e2]) rfl ?_
 exact RetI.box (by omega) ((HR.out.below b1).below b2) q2 k2 (by rw [v2, v1, Int.sub_eq_add_neg]) ((HB.out.trans (b1.mono HB.out.size)).trans (b2.mono (HB.out.trans (b1.mono HB.out.size)).size))
set_option maxRecDepth 100000 in
set_option maxHeartbeats 1600000 in
theorem bpow_any (n : Int) (w : World) :
  Calls Tryz.prog 41 #[.int .i64 n] w (RetI (shlI 1 n) w) := by
 obtain ⟨hR, hB⟩ := box1 w (.bool false) (.slice none 0 0) 42
 have HR := Lib.hid hR
 have HB := Lib.hid hB
 clear hR hB
 go_enter Tryz.func41, Tryz.ntmps41
 go_wp2_with (first
  | (go_at_call 49; refine (bof_any 1 _ (by decide) (by decide)).mono ?_; rintro e w1 ⟨A1, c1, s1, r1, rfl, q1, k1, v1, b1⟩; have l1 : r1.length ≤ 1 := len_ival k1 v1 1 (by decide); have HV := Lib.hid v1; clear v1)
  | (go_at_call 60; refine (bshl_any s1 _ _ r1 n _ q1 (by omega)).mono ?_; rintro e w2 ⟨A2, c2, s2, r2, rfl, q2, k2, v2, b2⟩; obtain ⟨y1, y2, y3, y4, _⟩ := (HR.out.below b1).below b2; have HV2 := Lib.hid v2; clear v2))
 obtain ⟨e1, e2, _, _, _⟩ := (((HR.out.below b1).below b2).set (.bool s2) (.slice A2 r2.length c2))
 refine bodyPost_ret (v := .agg #[.bool s2, .slice A2 r2.length c2]) (by simp [results, Tryz.results41, go_sem, e1, e2]) rfl ?_
 exact RetI.box (by omega) ((HR.out.below b1).below b2) q2 k2 (by rw [HV2.out, HV.out]) ((HB.out.trans (b1.mono HB.out.size)).trans (b2.mono (HB.out.trans (b1.mono HB.out.size)).size))
set_option maxRecDepth 100000 in
set_option maxHeartbeats 1600000 in
theorem rbpow_any (n : Int) (w : World) :
  Calls Tryz.prog 32 #[.int .i64 n] w (RetI (shlI 1 n) w) := by
 obtain ⟨hR, hB⟩ := box1 w (.bool false) (.slice none 0 0) 42
 have HR := Lib.hid hR
 have HB := Lib.hid hB
 clear hR hB
 go_enter Tryz.func32, Tryz.ntmps32
 go_wp2_with (first
  | (go_at_call 22; refine (rbof_any 1 _ (by decide) (by decide)).mono ?_; rintro e w1 ⟨A1, c1, s1, r1, rfl, q1, k1, v1, b1⟩; have l1 : r1.length ≤ 1 := len_ival k1 v1 1 (by decide); have HV := Lib.hid v1; clear v1)
  | (go_at_call 64; refine (rbshl_any s1 _ _ r1 n _ q1 (by omega)).mono ?_; rintro e w2 ⟨A2, c2, s2, r2, rfl, q2, k2, v2, b2⟩; obtain ⟨y1, y2, y3, y4, _⟩ := (HR.out.below b1).below b2; have HV2 := Lib.hid v2; clear v2))
 obtain ⟨e1, e2, _, _, _⟩ := (((HR.out.below b1).below b2).set (.bool s2) (.slice A2 r2.length c2))
 refine bodyPost_ret (v := .agg #[.bool s2, .slice A2 r2.length c2]) (by simp [results, Tryz.results32, go_sem, e1, e2]) rfl ?_
 exact RetI.box (by omega) ((HR.out.below b1).below b2) q2 k2 (by rw [HV2.out, HV.out]) ((HB.out.trans (b1.mono HB.out.size)).trans (b2.mono (HB.out.trans (b1.mono HB.out.size)).size))
theorem ord_of {s : Bool} {r : List Nat} {a b : Int} (hc : CanonI s r) (hv : ival s r = a - b) :
  (r.length = 0 → ordI a b = 0) ∧ (r.length ≠ 0 → s = true → ordI a b = -1) ∧ (r.length ≠ 0 → s = false → ordI a b = 1) := by
 refine ⟨fun h => ?_, fun h hs => ?_, fun h hs => ?_⟩
 ·
  obtain rfl := List.eq_nil_of_length_eq_zero h
  rw [ival_nil] at hv
  unfold ordI
  rw [if_neg (by omega), if_pos (by omega)]
 ·
  subst hs
  have : val r ≠ 0 := fun e => hc.2 rfl (canon_zero hc.1 e)
  unfold ival at hv
  simp only [if_true] at hv
  unfold ordI
  rw [if_pos (by omega)]
 ·
  subst hs
  have : val r ≠ 0 := fun e => h (by rw [canon_zero hc.1 e]; rfl)
  unfold ival at hv
  simp only [Bool.false_eq_true, if_false] at hv
  unfold ordI
  rw [if_neg (by omega), if_neg (by omega)]
theorem cmp_nn {xs ys : List Nat} : cmpN (val ys) (val xs) = ordI (ival true xs) (ival true ys) := by
 unfold cmpN ordI ival
 simp only [if_true]
 split <;> split <;> (try split) <;> (try split) <;> omega
theorem cmp_pp {xs ys : List Nat} : cmpN (val xs) (val ys) = ordI (ival false xs) (ival false ys) := by
 unfold cmpN ordI ival
 simp only [Bool.false_eq_true, if_false]
 split <;> split <;> (try split) <;> (try split) <;> omega
set_option maxRecDepth 100000 in
set_option maxHeartbeats 1600000 in
theorem bcmp_any (s t : Bool) (A B : Option Addr) (c d : Nat) (xs ys : List Nat) (w : World) (h : Us w A c xs) (k : Us w B d ys) (hl : xs.length ≤ 60000) (kl : ys.length ≤ 60000) (hc : CanonI s xs) (kc : CanonI t ys) :
  Calls Tryz.prog 74 #[.agg #[.bool s, .slice A xs.length c], .agg #[.bool t, .slice B ys.length d]] w fun e w' => e = .returned (.int .i64 (ordI (ival s xs) (ival t ys))) ∧ Below w.heap.size w w' := by
 have hcap := h.cap
 have kcap := k.cap
 obtain ⟨hX, hY, hB⟩ := box2 w (.bool s) (.slice A xs.length c) (.bool t) (.slice B ys.length d) 42
 have HB := Lib.hid hB
 have H1 := Lib.hid (h.below HB.out)
 have H2 := Lib.hid (k.below HB.out)
 obtain ⟨z, hz⟩ : ∃ z, z = ordI (ival s xs) (ival t ys) := ⟨_, rfl⟩
 rw [← hz]
 have HZ := Lib.hid hz
 clear h k hX hY hB hz
 cases s <;> cases t
 ·
  go_enter Tryz.func74, Tryz.ntmps74
  go_wp2_with (go_at_call 104; refine (cmp_any _ _ _ _ xs ys _ H1.out H2.out (by omega) (by omega)).mono ?_; rintro e w1 ⟨rfl, b⟩; rw [cmp_pp, ← HZ.out])
  go_ret
  exact ⟨rfl, HB.out.trans (b.mono HB.out.size)⟩
 ·
  go_enter Tryz.func74, Tryz.ntmps74
  go_wp2_with fail
  go_ret
  refine ⟨ret_int ?_, HB.out⟩
  rw [HZ.out]
  have := kc.2 rfl
  have h2 : val ys ≠ 0 := fun e => this (canon_zero kc.1 e)
  unfold ordI ival
  simp only [if_true, Bool.false_eq_true, if_false]
  rw [if_neg (by omega), if_neg (by omega)]
 ·
  go_enter Tryz.func74, Tryz.ntmps74
  go_wp2_with fail
  go_ret
  refine ⟨ret_int ?_, HB.out⟩
  rw [HZ.out]
  have := hc.2 rfl
  have h2 : val xs ≠ 0 := fun e => this (canon_zero hc.1 e)
  unfold ordI ival
  simp only [if_true, Bool.false_eq_true, if_false]
  rw [if_pos (by omega)]
 ·
  go_enter Tryz.func74, Tryz.ntmps74
  go_wp2_with (go_at_call 104; refine (cmp_any _ _ _ _ ys xs _ H2.out H1.out (by omega) (by omega)).mono ?_; rintro e w1 ⟨rfl, b⟩; rw [cmp_nn, ← HZ.out])
  go_ret
  exact ⟨rfl, HB.out.trans (b.mono HB.out.size)⟩
set_option maxRecDepth 100000 in
set_option maxHeartbeats 1600000 in
theorem rbcmp_any (s t : Bool) (A B : Option Addr) (c d : Nat) (xs ys : List Nat) (w : World) (h : Us w A c xs) (k : Us w B d ys) (hl : xs.length ≤ 60000) (kl : ys.length ≤ 60000) :
  Calls Tryz.prog 45 #[.agg #[.bool s, .slice A xs.length c], .agg #[.bool t, .slice B ys.length d]] w fun e w' => e = .returned (.int .i64 (ordI (ival s xs) (ival t ys))) ∧ Below w.heap.size w w' := by
 have hcap := h.cap
 have kcap := k.cap
 obtain ⟨hX, hY, hB⟩ := box2 w (.bool s) (.slice A xs.length c) (.bool t) (.slice B ys.length d) 42
 have HB := Lib.hid hB
 have H1 := Lib.hid (h.below HB.out)
 have H2 := Lib.hid (k.below HB.out)
 obtain ⟨z, hz⟩ : ∃ z, z = ordI (ival s xs) (ival t ys) := ⟨_, rfl⟩
 rw [← hz]
 have HZ := Lib.hid hz
 clear h k hX hY hB hz
 go_enter Tryz.func45, Tryz.ntmps45
 go_wp2_with (go_at_call 75; refine (rbsub_any s t _ _ _ _ xs ys _ H1.out H2.out hl kl).mono ?_; rintro e w1 ⟨A1, c1, s1, r1, rfl, q1, k1, v1, b1⟩; have HV := Lib.hid v1; have rcap := q1.cap; clear v1)
 ·
  go_ret
  have h0 : ((r1.length : Int) == 0) = true := by assumption
  exact ⟨ret_int (by rw [HZ.out]; exact ((ord_of k1 HV.out).1 (by rw [beq_iff_eq] at h0; omega)).symm), (HB.out.trans (b1.mono HB.out.size)).alloc (Nat.le_trans HB.out.size b1.size) _⟩
 ·
  go_ret
  have h0 : ((r1.length : Int) == 0) = false := by assumption
  have h1 : s1 = true := by assumption
  exact ⟨ret_int (by rw [HZ.out]; exact ((ord_of k1 HV.out).2.1 (by rw [beq_eq_false_iff_ne] at h0; omega) h1).symm), (HB.out.trans (b1.mono HB.out.size)).alloc (Nat.le_trans HB.out.size b1.size) _⟩
 ·
  go_ret
  have h0 : ((r1.length : Int) == 0) = false := by assumption
  have h1 : s1 = false := by assumption
  exact ⟨ret_int (by rw [HZ.out]; exact ((ord_of k1 HV.out).2.2 (by rw [beq_eq_false_iff_ne] at h0; omega) h1).symm), (HB.out.trans (b1.mono HB.out.size)).alloc (Nat.le_trans HB.out.size b1.size) _⟩
end Go.Proofs.YtmfncapgikobkaaGreat

namespace Go.Proofs.YtmfncapgikobkaaGreat
set_option maxRecDepth 100000
set_option linter.unusedVariables false
set_option linter.unusedSimpArgs false
open Go.RowKit Num
def rightI (s : Bool) (xs : List Nat) : Bool := rightB xs && (!s || decide (0 < xs.length))
set_option maxRecDepth 100000 in
set_option maxHeartbeats 1600000 in
theorem bright_any (s : Bool) (A : Option Addr) (c : Nat) (xs : List Nat) (w : World) (h : Us w A c xs) (hl : xs.length ≤ 60000) :
  Calls Tryz.prog 25 #[.agg #[.bool s, .slice A xs.length c]] w fun e w' => e = .returned (.bool (rightI s xs)) ∧ Below w.heap.size w w' := by
 have hcap := h.cap
 obtain ⟨hX, hB⟩ := box1 w (.bool s) (.slice A xs.length c) 42
 have HB := Lib.hid hB
 have H1 := Lib.hid (h.below HB.out)
 obtain ⟨b, hb⟩ : ∃ b, b = rightB xs := ⟨_, rfl⟩
 unfold rightI
 rw [← hb]
 have HR := Lib.hid hb
 clear h hX hB hb
 cases b <;> cases s
 all_goals
  go_enter Tryz.func25, Tryz.ntmps25
  go_wp2_with (go_at_call 55; refine (right_any _ _ xs _ H1.out (by omega)).mono ?_; rintro e w' ⟨rfl, rfl⟩; rw [← HR.out])
  go_ret
  exact ⟨by simp, HB.out⟩
set_option maxRecDepth 100000 in
set_option maxHeartbeats 1600000 in
theorem rbsame_any (s t : Bool) (A B : Option Addr) (c d : Nat) (xs ys : List Nat) (w : World) (h : Us w A c xs) (k : Us w B d ys) (hl : xs.length ≤ 1000000) :
  Calls Tryz.prog 17 #[.agg #[.bool s, .slice A xs.length c], .agg #[.bool t, .slice B ys.length d]] w fun e w' => e = .returned (.bool (decide (s = t ∧ xs = ys))) ∧ Below w.heap.size w w' := by
 have hcap := h.cap
 have kcap := k.cap
 obtain ⟨hX, hY, hB⟩ := box2 w (.bool s) (.slice A xs.length c) (.bool t) (.slice B ys.length d) 42
 have HX := Lib.hid hX.drew
 have HY := Lib.hid hY.drew
 have HB := Lib.hid hB
 have H1 := Lib.hid (h.below HB.out)
 have H2 := Lib.hid (k.below HB.out)
 obtain ⟨z, hz⟩ : ∃ z, z = decide (xs = ys) := ⟨_, rfl⟩
 have hzz : decide (s = t ∧ xs = ys) = (decide (s = t) && z) := by rw [hz]; simp
 rw [hzz]
 have HZ := Lib.hid hz
 clear h k hX hY hB hz hzz
 cases s <;> cases t
 all_goals
  go_enter Tryz.func17, Tryz.ntmps17
  go_wp2_with (go_at_call 47; refine (same_any _ _ _ _ xs ys _ H1.out H2.out hl).mono ?_; rintro e w1 ⟨rfl, b1⟩; rw [← HZ.out])
  go_ret
  first | exact ⟨by simp, HB.out.trans (b1.mono HB.out.size)⟩ | exact ⟨by simp, HB.out⟩
end Go.Proofs.YtmfncapgikobkaaGreat
