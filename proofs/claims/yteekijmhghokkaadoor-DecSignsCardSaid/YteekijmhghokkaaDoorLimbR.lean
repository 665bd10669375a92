/-
  From a call's reading to the walks' facts.
-/
import Derived.Test.YteekijmhghokkaaDoorRows
import Derived.Test.YteekijmhghokkaaDoorLimbA
import Derived.ProofKit
import Derived.SizedLaws

namespace Go.Proofs.YteekijmhghokkaaDoor
set_option linter.unusedVariables false
set_option linter.unusedSimpArgs false
open Go.ChangeShapes Go.WideShapes Go.ChangeAt Go.RowKit Num
theorem row_own : ownKnob Tryd.prog.godebug = none := by kernel_rfl
theorem row_laid : laidOutB Tryd.prog = true := by kernel_rfl
theorem row_cellsU : Tryd.prog.cellsOf 48 = 1 := by kernel_rfl
end Go.Proofs.YteekijmhghokkaaDoor
