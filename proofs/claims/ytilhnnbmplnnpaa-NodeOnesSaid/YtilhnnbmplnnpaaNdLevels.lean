/-
  NodeLevels holds of every input: the walk.
-/
import Derived.Test.YtilhnnbmplnnpaaNdsQ
import Derived.Test.YtilhnnbmplnnpaaNdAlive
import Derived.Test.YtilhnnbmplnnpaaNdOwn

namespace Go.Proofs.Ytilhnnbmplnnpaa
set_option linter.unusedVariables false
set_option linter.unusedSimpArgs false
open Go.RowKit Nds
theorem box_quad (w : World) (A : Option Addr) (n c : Nat) : (w.alloc (.cells #[.slice A n c] 27)).cell? ⟨w.heap.size, 0, none⟩ = some (.slice A n c) := by
  rw [cell_of_row _ _ _ _ _ _ (heap_alloc_new w (.cells #[.slice A n c] 27))]
  rfl
end Go.Proofs.Ytilhnnbmplnnpaa
