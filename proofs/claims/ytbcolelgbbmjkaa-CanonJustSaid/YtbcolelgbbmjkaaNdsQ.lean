/-
  node: quads, plain: who is a quarter of whom.
-/
import Derived.Test.YtbcolelgbbmjkaaNdRRight

namespace Go.Proofs.Ytbcolelgbbmjkaa
set_option linter.unusedVariables false
set_option linter.unusedSimpArgs false
open Nds
theorem quad_loose {l : List Nd} (hq : quadB l = true) : looseB l = true := by
  by_cases hne : l = []
  · subst hne
    rfl
  · unfold quadB at hq
    rw [decide_eq_false hne, Bool.false_or, Bool.and_eq_true] at hq
    exact hq.1
end Go.Proofs.Ytbcolelgbbmjkaa
