/-
  node: the reference's Empty, Hollow.
-/
import Derived.Test.YtbcolelgbbmjkaaNdREmp
import Derived.Test.YtbcolelgbbmjkaaNdHollow

namespace Go.Proofs.Ytbcolelgbbmjkaa
set_option linter.unusedVariables false
set_option linter.unusedSimpArgs false
open Go.RowKit Nds
theorem rim_at {x : Nd} {k q : Nat} (hk : k < 4) (hq : q < 4) : (rim x k).kid q = if q + k = 3 then 0 else x.kid q := by
  match k, q, hk, hq with
  | 0, 0, _, _ => rfl
  | 0, 1, _, _ => rfl
  | 0, 2, _, _ => rfl
  | 0, 3, _, _ => rfl
  | 1, 0, _, _ => rfl
  | 1, 1, _, _ => rfl
  | 1, 2, _, _ => rfl
  | 1, 3, _, _ => rfl
  | 2, 0, _, _ => rfl
  | 2, 1, _, _ => rfl
  | 2, 2, _, _ => rfl
  | 2, 3, _, _ => rfl
  | 3, 0, _, _ => rfl
  | 3, 1, _, _ => rfl
  | 3, 2, _, _ => rfl
  | 3, 3, _, _ => rfl
end Go.Proofs.Ytbcolelgbbmjkaa
