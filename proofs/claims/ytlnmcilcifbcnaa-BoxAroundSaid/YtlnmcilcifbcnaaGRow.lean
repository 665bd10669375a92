/-
  From a call's reading to the walks' facts.
-/
import Derived.Test.YtlnmcilcifbcnaaRows
import Derived.Test.YtlnmcilcifbcnaaGMem
import Derived.ProofKit
import Derived.SizedLaws

set_option linter.unusedVariables false
set_option linter.unusedSimpArgs false
set_option maxRecDepth 100000
namespace Go.Proofs.Ytlnmcilcifbcnaa
open Go.ChangeShapes Go.WideShapes Go.ChangeAt Go.RowKit Num
theorem row_cellsU : Try.prog.cellsOf 104 = 1 := by kernel_rfl
end Go.Proofs.Ytlnmcilcifbcnaa
