/-
  node: the reference's Empties, Empty.
-/
import Derived.Test.YtbcolelgbbmjkaaNdMap
import Derived.OwnWalk
import Derived.Maps.AppendAt
import Derived.Test.YtbcolelgbbmjkaaNdRLoose

namespace Go.Proofs.Ytbcolelgbbmjkaa
set_option linter.unusedVariables false
set_option linter.unusedSimpArgs false
open Go.RowKit Nds
/-- Block g is a row of n bools, bs, made by the call. -/
def OwnT (w : World) (base g n : Nat) (bs : List Bool) : Prop :=
  bs.length = n ∧ w.ownsRow base 4 1 (.slice (some ⟨g, 0, none⟩) n n) n (bs.map Value.bool)
theorem OwnT.cell {w : World} {base g n : Nat} {bs : List Bool} (h : OwnT w base g n bs) {k : Nat} (hk : k < n) : w.cell? ⟨g, k, none⟩ = some (.bool (bs.getD k false)) := by
  have hl : k < bs.length := by have := h.1; omega
  rw [h.2.cellAt k (by omega), List.getElem?_map, List.getD_eq_getElem?_getD, List.getElem?_eq_getElem hl]
  rfl
theorem OwnT.free {w : World} {base g n : Nat} {bs : List Bool} (h : OwnT w base g n bs) (k : Nat) : w.frozen? ⟨g, k, none⟩ = false := h.2.frozenAt k
theorem OwnT.set {w : World} {base g n : Nat} {bs : List Bool} (h : OwnT w base g n bs) (k : Nat) (u : Bool) : OwnT (w.setCell ⟨g, k, none⟩ (.bool u)) base g n (bs.set k u) := by
  refine ⟨by simpa using h.1, ?_⟩
  rw [List.map_set]
  exact (h.2.stored k _).1
theorem OwnT.lt {w : World} {base g n : Nat} {bs : List Bool} (h : OwnT w base g n bs) : g < w.heap.size := (h.2.lt g rfl).2
end Go.Proofs.Ytbcolelgbbmjkaa
