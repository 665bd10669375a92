/-
  From a call's reading to the walks' facts.
-/
import Derived.Test.YtmfncapgikobkaaGreatRows
import Derived.Test.YtmfncapgikobkaaGreatMem
import Derived.ProofKit
import Derived.SizedLaws

namespace Go.Proofs.YtmfncapgikobkaaGreat
set_option maxRecDepth 100000
set_option linter.unusedVariables false
set_option linter.unusedSimpArgs false
open Go.ChangeShapes Go.WideShapes Go.ChangeAt Go.RowKit Num
theorem row_cellsU : Tryz.prog.cellsOf 89 = 1 := by kernel_rfl
end Go.Proofs.YtmfncapgikobkaaGreat
