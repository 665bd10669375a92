/-
  canon: the reference's Of.
-/
import Derived.Test.YtbcolelgbbmjkaaNcRV

namespace Go.Proofs.Ytbcolelgbbmjkaa
set_option linter.unusedVariables false
set_option linter.unusedSimpArgs false
open Go.RowKit Nds
theorem one_cell {w : World} {g : Nat} {u : Value} {t : TypeId} (h : w.heap[g]? = some (.cells #[u] t)) : w.cell? ⟨g, 0, none⟩ = some u := by
  rw [cell_of_row w g _ _ _ _ h]
  rfl
theorem one_free {w : World} {g : Nat} {u : Value} {t : TypeId} (h : w.heap[g]? = some (.cells #[u] t)) : w.frozen? ⟨g, 0, none⟩ = false := frozen_of_row w g 0 _ _ h
end Go.Proofs.Ytbcolelgbbmjkaa
