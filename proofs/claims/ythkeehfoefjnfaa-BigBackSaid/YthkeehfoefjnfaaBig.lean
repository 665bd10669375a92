/-
  Big numbers in memory: what a call that answers one leaves; signed, sign.
-/
import Derived.Test.YthkeehfoefjnfaaShifts
import Derived.Test.YthkeehfoefjnfaaSums
import Derived.Deep.RegionHeld3
namespace Go.Proofs.Ythkeehfoefjnfaa
set_option linter.unusedVariables false
set_option linter.unusedSimpArgs false
open Go.RowKit Num

/-- The number, with a minus. -/
def ival (s : Bool) (xs : List Nat) : Int := if s then -(val xs : Int) else val xs
/-- It may be: in one way, and no minus without limbs. -/
def CanonI (s : Bool) (xs : List Nat) : Prop := Canon xs ∧ (s = true → xs ≠ [])
/-- What a call that answers a big number leaves. -/
def RetI (n : Int) (w : World) (e : Ending) (w' : World) : Prop :=
  ∃ A c s rs, e = .returned (.agg #[.bool s, .slice A rs.length c]) ∧ Us w' A c rs ∧ CanonI s rs ∧ ival s rs = n ∧ Below w.heap.size w w'
theorem ival_nil (s : Bool) : ival s [] = 0 := by cases s <;> rfl
theorem uniqI {s t : Bool} {xs ys : List Nat} (dx : Dig xs) (dy : Dig ys) (hx : CanonI s xs) (hy : CanonI t ys) (h : ival s xs = ival t ys) : s = t ∧ xs = ys := by
  have zx : val xs = 0 → xs = [] := canon_zero hx.1
  have zy : val ys = 0 → ys = [] := canon_zero hy.1
  have hv : val xs = val ys := by
    unfold ival at h
    cases s <;> cases t <;> simp at h <;> omega
  obtain rfl := uniq dx dy hx.1 hy.1 hv
  refine ⟨?_, rfl⟩
  cases s <;> cases t
  · rfl
  · unfold ival at h
    simp at h
    exact absurd (zx (by omega)) (hy.2 rfl)
  · unfold ival at h
    simp at h
    exact absurd (zx (by omega)) (hx.2 rfl)
  · rfl
theorem canonI_of {xs : List Nat} (hc : Canon xs) (s : Bool) : CanonI (s && decide (0 < xs.length)) xs := ⟨hc, fun h => by
  intro e
  subst e
  simp at h⟩
theorem ival_of (xs : List Nat) (s : Bool) : ival (s && decide (0 < xs.length)) xs = ival s xs := by
  cases xs with
  | nil => rw [ival_nil, ival_nil]
  | cons x r => simp

set_option maxRecDepth 100000 in
set_option maxHeartbeats 1600000 in
theorem signed_any (s : Bool) (A : Option Addr) (c : Nat) (xs : List Nat) (w : World) (h : Us w A c xs) (hc : Canon xs) :
    Calls Try.prog 72 #[.bool s, .slice A xs.length c] w (RetI (ival s xs) w) := by
  have hcap := h.cap
  have hk := canonI_of hc s
  have hv := ival_of xs s
  have H := Lib.hid (And.intro hk hv)
  clear hk hv
  go_enter Try.func72, Try.ntmps72
  cases s
  · go_wp2
    refine bodyPost_ret (v := .agg #[.bool false, .slice A xs.length c]) (by simp [results, Try.results72, go_sem]) rfl ⟨A, c, _, xs, rfl, h.below (Below.alloc (Below.refl _ _) (Nat.le_refl _) _), H.out.1, H.out.2, Below.alloc (Below.refl _ _) (Nat.le_refl _) _⟩
  · go_wp2
    refine bodyPost_ret (v := .agg #[.bool (decide (0 < xs.length)), .slice A xs.length c]) (by simp [results, Try.results72, go_sem]) rfl ⟨A, c, decide (0 < xs.length), xs, rfl, h.below (Below.alloc (Below.refl _ _) (Nat.le_refl _) _), by simpa using H.out.1, by simpa using H.out.2, Below.alloc (Below.refl _ _) (Nat.le_refl _) _⟩

/-- A block of one's own with two cells. -/
def Box (w : World) (g : Nat) (x y : Value) : Prop :=
  w.cell? ⟨g, 0, none⟩ = some x ∧ w.cell? ⟨g, 1, none⟩ = some y ∧ w.frozen? ⟨g, 0, none⟩ = false ∧ w.frozen? ⟨g, 1, none⟩ = false ∧ g < w.heap.size
theorem Box.new (w : World) (x y : Value) (t : TypeId) : Box (w.alloc (.cells #[x, y] t)) w.heap.size x y := by
  have h := heap_alloc_new w (.cells #[x, y] t)
  exact ⟨by rw [cell_of_row _ _ _ _ _ _ h]; rfl, by rw [cell_of_row _ _ _ _ _ _ h]; rfl, frozen_of_row _ _ _ _ _ h, frozen_of_row _ _ _ _ _ h, by simp⟩
theorem Box.below {w w' : World} {g : Nat} {x y : Value} (h : Box w g x y) (b : Below w.heap.size w w') : Box w' g x y :=
  ⟨(b.cell (p := ⟨g, 0, none⟩) h.2.2.2.2).trans h.1, (b.cell (p := ⟨g, 1, none⟩) h.2.2.2.2).trans h.2.1, (b.frozen (p := ⟨g, 0, none⟩) h.2.2.2.2).trans h.2.2.1, (b.frozen (p := ⟨g, 1, none⟩) h.2.2.2.2).trans h.2.2.2.1, Nat.lt_of_lt_of_le h.2.2.2.2 b.size⟩
theorem Box.alloc {w : World} {g : Nat} {x y : Value} (h : Box w g x y) (o : Obj) : Box (w.alloc o) g x y := h.below ((Below.refl _ w).alloc (Nat.le_refl _) o)

theorem Box.set {w : World} {g : Nat} {x y : Value} (h : Box w g x y) (x' y' : Value) : Box ((w.setCell ⟨g, 0, none⟩ x').setCell ⟨g, 1, none⟩ y') g x' y' := by
  obtain ⟨h1, h2, h3, h4, h5⟩ := h
  have e1 : (w.setCell ⟨g, 0, none⟩ x').cell? ⟨g, 0, none⟩ = some x' := World.cell?_setCell_same' _ _ _ (by rw [h1]; rfl)
  have e2 : (w.setCell ⟨g, 0, none⟩ x').cell? ⟨g, 1, none⟩ = some y := by rw [World.cell?_setCell_other _ _ _ _ (by simp)]; exact h2
  refine ⟨?_, World.cell?_setCell_same' _ _ _ (by rw [e2]; rfl), ?_, ?_, ?_⟩
  · rw [World.cell?_setCell_other _ _ _ _ (by simp)]; exact e1
  · rw [World.frozen?_setCell, World.frozen?_setCell]; exact h3
  · rw [World.frozen?_setCell, World.frozen?_setCell]; exact h4
  · simpa using h5
/-- A store over what is no limb leaves limbs as they are. -/
theorem Us.over {w : World} {A : Option Addr} {c : Nat} {xs : List Nat} (h : Us w A c xs) {g o : Nat} {v0 : Value} (hc : w.cell? ⟨g, o, none⟩ = some v0) (hv : ∀ n, v0 ≠ .int .u32 n) (v : Value) : Us (w.setCell ⟨g, o, none⟩ v) A c xs := by
  refine ⟨h.1, h.2.1, h.2.2.1, fun hn => ?_⟩
  obtain ⟨b, off, e, hb, hr⟩ := h.2.2.2 hn
  refine ⟨b, off, e, by simpa using hb, fun j u hu => ?_⟩
  have hj := hr j u hu
  rw [World.cell?_setCell_other]
  · exact hj
  · intro e2
    rw [← e2, hc] at hj
    cases hj
    rw [List.getElem?_map] at hu
    obtain ⟨n, _, hn'⟩ := Option.map_eq_some_iff.1 hu
    exact hv _ hn'.symm
theorem Us.boxed {w : World} {A : Option Addr} {c : Nat} {xs : List Nat} (h : Us w A c xs) {g : Nat} {s : Bool} {A0 : Option Addr} {n0 c0 : Nat} (hb : Box w g (.bool s) (.slice A0 n0 c0)) (x y : Value) :
    Us ((w.setCell ⟨g, 0, none⟩ x).setCell ⟨g, 1, none⟩ y) A c xs := by
  refine (h.over hb.1 (by simp) x).over (v0 := .slice A0 n0 c0) ?_ (by simp) y
  rw [World.cell?_setCell_other _ _ _ _ (by simp)]
  exact hb.2.1
/-- The end of a call that answers a big number out of a block of its own. -/
theorem RetI.box {w w1 : World} {g : Nat} {A A0 : Option Addr} {c n0 c0 : Nat} {s s0 : Bool} {rs : List Nat} {n : Int} (hg : w.heap.size ≤ g) (hb : Box w1 g (.bool s0) (.slice A0 n0 c0)) (q : Us w1 A c rs) (k : CanonI s rs) (v : ival s rs = n) (b : Below w.heap.size w w1) :
    RetI n w (.returned (.agg #[.bool s, .slice A rs.length c])) ((w1.setCell ⟨g, 0, none⟩ (.bool s)).setCell ⟨g, 1, none⟩ (.slice A rs.length c)) :=
  ⟨A, c, s, rs, rfl, q.boxed hb _ _, k, v, (b.setCell (p := ⟨g, 0, none⟩) hg _).setCell (p := ⟨g, 1, none⟩) hg _⟩

set_option maxRecDepth 100000 in
set_option maxHeartbeats 1600000 in
theorem rsign_any (s : Bool) (A : Option Addr) (c : Nat) (xs : List Nat) (w : World) (h : Us w A c xs) (hl : xs.length ≤ 100000) :
    Calls Try.prog 73 #[.bool s, .slice A xs.length c] w (RetI (ival s xs) w) := by
  have hcap := h.cap
  have b0 := Lib.hid ((Below.refl w.heap.size w).alloc (Nat.le_refl _) (.cells #[.bool false, .slice none 0 0] 43))
  have H1 := Lib.hid h
  clear h
  go_enter Try.func73, Try.ntmps73
  cases s
  all_goals
    go_wp2_with (go_at_call 29; refine (rnorm_any _ _ xs _ (H1.out.below b0.out) (by omega)).mono ?_; rintro e w1 ⟨A1, c1, r1, rfl, q, k1, v1, b⟩; have hcap1 := q.cap; obtain ⟨x1, x2, x3, x4, x5⟩ := (Box.new w _ _ _).below b; have HQ := Lib.hid (And.intro q (And.intro k1 (And.intro v1 b))); clear q k1 v1 b)
  all_goals
    have HB := (Box.new w (.bool false) (.slice none 0 0) 43).below HQ.out.2.2.2
    have hw1 : Below w.heap.size w w1 := b0.out.trans (HQ.out.2.2.2.mono (by simp))
    clear x1 x2 x3 x4 x5
  · obtain ⟨e1, e2, _, _, _⟩ := HB.set (.bool false) (.slice A1 r1.length c1)
    refine bodyPost_ret (v := .agg #[.bool false, .slice A1 r1.length c1]) (by simp [results, Try.results73, go_sem, e1, e2]) rfl ?_
    exact RetI.box (Nat.le_refl _) HB HQ.out.1 ⟨HQ.out.2.1, by simp⟩ (by unfold ival; simp [HQ.out.2.2.1]) hw1
  · obtain ⟨e1, e2, _, _, _⟩ := HB.set (.bool (decide (0 < r1.length))) (.slice A1 r1.length c1)
    refine bodyPost_ret (v := .agg #[.bool (decide (0 < r1.length)), .slice A1 r1.length c1]) (by simp [results, Try.results73, go_sem, e1, e2]) rfl ?_
    refine RetI.box (Nat.le_refl _) HB HQ.out.1 (by simpa using canonI_of HQ.out.2.1 true) ?_ hw1
    have := ival_of r1 true
    simp only [Bool.true_and] at this
    rw [this]
    unfold ival
    simp [HQ.out.2.2.1]

theorem Below.drew' {B : Nat} {w w' : World} (h : Below B w w') : Below B w w'.drew := below_drewN h 1
theorem Box.drew {w : World} {g : Nat} {x y : Value} (h : Box w g x y) : Box w.drew g x y := h.below (Below.drew' (Below.refl _ w))
/-- One box, two boxes at a call's beginning. -/
theorem box1 (w : World) (x y : Value) (t : TypeId) : Box (w.alloc (.cells #[x, y] t)) w.heap.size x y ∧ Below w.heap.size w (w.alloc (.cells #[x, y] t)) := ⟨Box.new w x y t, (Below.refl _ w).alloc (Nat.le_refl _) _⟩
theorem box2 (w : World) (x y x' y' : Value) (t : TypeId) : Box ((w.alloc (.cells #[x, y] t)).alloc (.cells #[x', y'] t)) w.heap.size x y ∧ Box ((w.alloc (.cells #[x, y] t)).alloc (.cells #[x', y'] t)) (w.heap.size + 1) x' y' ∧ Below w.heap.size w ((w.alloc (.cells #[x, y] t)).alloc (.cells #[x', y'] t)) := by
  refine ⟨(Box.new w x y t).alloc _, ?_, (box1 w x y t).2.alloc (by simp) _⟩
  have h := Box.new (w.alloc (.cells #[x, y] t)) x' y' t
  simpa using h
theorem box3 (w : World) (x y x' y' x2 y2 : Value) (t : TypeId) : Box (((w.alloc (.cells #[x, y] t)).alloc (.cells #[x', y'] t)).alloc (.cells #[x2, y2] t)) w.heap.size x y ∧ Box (((w.alloc (.cells #[x, y] t)).alloc (.cells #[x', y'] t)).alloc (.cells #[x2, y2] t)) (w.heap.size + 1) x' y' ∧ Box (((w.alloc (.cells #[x, y] t)).alloc (.cells #[x', y'] t)).alloc (.cells #[x2, y2] t)) (w.heap.size + 1 + 1) x2 y2 ∧ Below w.heap.size w (((w.alloc (.cells #[x, y] t)).alloc (.cells #[x', y'] t)).alloc (.cells #[x2, y2] t)) := by
  obtain ⟨h1, h2, h3⟩ := box2 w x y x' y' t
  refine ⟨h1.alloc _, h2.alloc _, ?_, h3.alloc (by simp; omega) _⟩
  have h := Box.new ((w.alloc (.cells #[x, y] t)).alloc (.cells #[x', y'] t)) x2 y2 t
  simpa using h

set_option maxRecDepth 100000 in
set_option maxHeartbeats 1600000 in
theorem minus_any (s : Bool) (A : Option Addr) (c : Nat) (xs : List Nat) (w : World) (h : Us w A c xs) (hl : xs.length ≤ 100000) :
    Calls Try.prog 50 #[.agg #[.bool s, .slice A xs.length c]] w (RetI (-ival s xs) w) := by
  have hcap := h.cap
  obtain ⟨hX, hR, hB⟩ := box2 w (.bool s) (.slice A xs.length c) (.bool false) (.slice none 0 0) 43
  have HX := Lib.hid hX.drew
  have HR := Lib.hid hR.drew
  have HB := Lib.hid (Below.drew' hB)
  have H1 := Lib.hid (h.below HB.out)
  clear h hX hR hB
  go_enter Try.func50, Try.ntmps50
  go_wp2_with fail
  go_region_held3 (fun w' => w'.cell? ⟨w.heap.size, 0, none⟩ = some (.bool s) ∧ w'.cell? ⟨w.heap.size, 1, none⟩ = some (.slice A xs.length c))
    (first | go_keep | fail)
    (first
      | (go_at_call 28; refine (norm_any _ _ xs _ H1.out (by omega)).mono ?_; rintro e w1 ⟨A1, c1, r1, rfl, q1, k1, v1, b1⟩; obtain ⟨x1, x2, _, _, _⟩ := HX.out.below b1)
      | (go_at_call 72; refine (signed_any (!s) _ _ r1 _ q1 k1).mono ?_; rintro e w2 ⟨A2, c2, s2, r2, rfl, q2, k2, v2, b2⟩; obtain ⟨x1, x2, _, _, _⟩ := (HX.out.below b1).below b2; obtain ⟨y1, y2, y3, y4, _⟩ := (HR.out.below b1).below b2))
  go_wp2
  obtain ⟨e1, e2, _, _, _⟩ := (((HR.out.below b1).below b2).set (.bool s2) (.slice A2 r2.length c2))
  refine bodyPost_ret (v := .agg #[.bool s2, .slice A2 r2.length c2]) (by simp [results, Try.results50, go_sem, e1, e2]) rfl ?_
  refine RetI.box (by omega) ((HR.out.below b1).below b2) q2 k2 ?_ ((HB.out.trans (b1.mono HB.out.size)).trans (b2.mono (HB.out.trans (b1.mono HB.out.size)).size))
  rw [v2]
  unfold ival
  rw [v1]
  cases s <;> simp

end Go.Proofs.Ythkeehfoefjnfaa
