/-
  From a call's reading to the walks' facts.
-/
import Derived.Test.YtdmkiioimmmlbaaRows
import Derived.Test.YtdmkiioimmmlbaaGMem
import Derived.ProofKit
import Derived.SizedLaws

namespace Go.Proofs.Ytdmkiioimmmlbaa
set_option maxRecDepth 100000
set_option linter.unusedVariables false
set_option linter.unusedSimpArgs false
open Go.ChangeShapes Go.WideShapes Go.ChangeAt Go.RowKit Num
theorem row_cellsU : Try.prog.cellsOf 104 = 1 := by kernel_rfl
end Go.Proofs.Ytdmkiioimmmlbaa
