/-
  node: the laws' examples.
-/
import Derived.Test.YtbcolelgbbmjkaaNdRRight

namespace Go.Proofs.Ytbcolelgbbmjkaa
set_option linter.unusedVariables false
set_option linter.unusedSimpArgs false
open Go.RowKit Nds
def one5 : List Nd := [⟨1, 0, 0, 0, 1⟩]
def hol5 : List Nd := [⟨1, 0, 0, 0, 1⟩, ⟨2, 1, 0, 0, 0⟩]
def far5 : List Nd := [⟨1, 0, 0, 0, 1⟩, ⟨2, 0, 0, 0, 1⟩]
theorem ns_lit1 (W : World) (g : Nat) (x : Nd) (hx : x.wf) (hg : W.heap.size = g) : Ns (W.alloc (.cells #[.int .i64 x.lv, .int .i64 x.a, .int .i64 x.b, .int .i64 x.c, .int .i64 x.d] 38)) (some ⟨g, 0, none⟩) 1 [x] := by
  subst hg
  refine ⟨by simpa using hx, by simp, by simp [maxLen], fun _ => ⟨_, 0, rfl, by simp, fun i hi => ?_⟩⟩
  have h0 : i = 0 := by simpa using hi
  subst h0
  exact NdAt.new W x _
theorem ns_lit2 (W : World) (g : Nat) (x y : Nd) (hx : x.wf) (hy : y.wf) (hg : W.heap.size = g) : Ns (W.alloc (.cells #[.int .i64 x.lv, .int .i64 x.a, .int .i64 x.b, .int .i64 x.c, .int .i64 x.d, .int .i64 y.lv, .int .i64 y.a, .int .i64 y.b, .int .i64 y.c, .int .i64 y.d] 38)) (some ⟨g, 0, none⟩) 2 [x, y] := by
  subst hg
  have h := heap_alloc_new W (.cells #[.int .i64 x.lv, .int .i64 x.a, .int .i64 x.b, .int .i64 x.c, .int .i64 x.d, .int .i64 y.lv, .int .i64 y.a, .int .i64 y.b, .int .i64 y.c, .int .i64 y.d] 38)
  refine ⟨fun z hz => ?_, by simp, by simp [maxLen], fun _ => ⟨_, 0, rfl, by simp, fun i hi => ?_⟩⟩
  · simp at hz
    rcases hz with rfl | rfl
    · exact hx
    · exact hy
  · match i, hi with
    | 0, _ => exact ⟨by rw [cell_of_row _ _ _ _ _ _ h]; rfl, by rw [cell_of_row _ _ _ _ _ _ h]; rfl, by rw [cell_of_row _ _ _ _ _ _ h]; rfl, by rw [cell_of_row _ _ _ _ _ _ h]; rfl, by rw [cell_of_row _ _ _ _ _ _ h]; rfl⟩
    | 1, _ => exact ⟨by rw [cell_of_row _ _ _ _ _ _ h]; rfl, by rw [cell_of_row _ _ _ _ _ _ h]; rfl, by rw [cell_of_row _ _ _ _ _ _ h]; rfl, by rw [cell_of_row _ _ _ _ _ _ h]; rfl, by rw [cell_of_row _ _ _ _ _ _ h]; rfl⟩
/-- The three lists that alive makes, later on. -/
def St5 (w W : World) (g : Nat) : Prop :=
  Below w.heap.size w W ∧ Ns W (some ⟨g, 0, none⟩) 1 one5 ∧ Ns W (some ⟨g + 1, 0, none⟩) 2 hol5 ∧ Ns W (some ⟨g + 1 + 1, 0, none⟩) 2 far5 ∧ w.heap.size ≤ W.heap.size
theorem St5.step {w W W' : World} {g : Nat} (s : St5 w W g) (b : Below W.heap.size W W') : St5 w W' g :=
  ⟨s.1.trans (b.mono s.1.size), s.2.1.below b, s.2.2.1.below b, s.2.2.2.1.below b, Nat.le_trans s.2.2.2.2 b.size⟩
theorem St5.alloc {w W : World} {g : Nat} (s : St5 w W g) (o : Obj) : St5 w (W.alloc o) g := s.step ((Below.refl _ W).alloc (Nat.le_refl _) o)
theorem St5.start (w : World) : St5 w (((w.alloc (.cells #[.int .i64 1, .int .i64 0, .int .i64 0, .int .i64 0, .int .i64 1] 38)).alloc (.cells #[.int .i64 1, .int .i64 0, .int .i64 0, .int .i64 0, .int .i64 1, .int .i64 2, .int .i64 1, .int .i64 0, .int .i64 0, .int .i64 0] 38)).alloc (.cells #[.int .i64 1, .int .i64 0, .int .i64 0, .int .i64 0, .int .i64 1, .int .i64 2, .int .i64 0, .int .i64 0, .int .i64 0, .int .i64 1] 38)) w.heap.size := by
  have i0 : in64 0 := in64_0
  have i1 : in64 1 := ⟨by omega, by omega⟩
  have i2 : in64 2 := ⟨by omega, by omega⟩
  have h1 := ns_lit1 w w.heap.size ⟨1, 0, 0, 0, 1⟩ ⟨i1, i0, i0, i0, i1⟩ rfl
  have b2 := (Below.refl _ (w.alloc (.cells #[.int .i64 1, .int .i64 0, .int .i64 0, .int .i64 0, .int .i64 1] 38))).alloc (Nat.le_refl _) (.cells #[.int .i64 1, .int .i64 0, .int .i64 0, .int .i64 0, .int .i64 1, .int .i64 2, .int .i64 1, .int .i64 0, .int .i64 0, .int .i64 0] 38)
  have h2 := ns_lit2 (w.alloc (.cells #[.int .i64 1, .int .i64 0, .int .i64 0, .int .i64 0, .int .i64 1] 38)) (w.heap.size + 1) ⟨1, 0, 0, 0, 1⟩ ⟨2, 1, 0, 0, 0⟩ ⟨i1, i0, i0, i0, i1⟩ ⟨i2, i1, i0, i0, i0⟩ (by simp)
  have b3 := (Below.refl _ ((w.alloc (.cells #[.int .i64 1, .int .i64 0, .int .i64 0, .int .i64 0, .int .i64 1] 38)).alloc (.cells #[.int .i64 1, .int .i64 0, .int .i64 0, .int .i64 0, .int .i64 1, .int .i64 2, .int .i64 1, .int .i64 0, .int .i64 0, .int .i64 0] 38))).alloc (Nat.le_refl _) (.cells #[.int .i64 1, .int .i64 0, .int .i64 0, .int .i64 0, .int .i64 1, .int .i64 2, .int .i64 0, .int .i64 0, .int .i64 0, .int .i64 1] 38)
  have h3 := ns_lit2 ((w.alloc (.cells #[.int .i64 1, .int .i64 0, .int .i64 0, .int .i64 0, .int .i64 1] 38)).alloc (.cells #[.int .i64 1, .int .i64 0, .int .i64 0, .int .i64 0, .int .i64 1, .int .i64 2, .int .i64 1, .int .i64 0, .int .i64 0, .int .i64 0] 38)) (w.heap.size + 1 + 1) ⟨1, 0, 0, 0, 1⟩ ⟨2, 0, 0, 0, 1⟩ ⟨i1, i0, i0, i0, i1⟩ ⟨i2, i0, i0, i0, i1⟩ (by simp)
  exact ⟨(((Below.refl _ w).alloc (Nat.le_refl _) _).alloc (by simp) _).alloc (by simp; omega) _, (h1.below b2).below b3, h2.below b3, h3, by simp; omega⟩
end Go.Proofs.Ytbcolelgbbmjkaa
