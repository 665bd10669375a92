import Derived.Test.YtikehjindobpkaaGreatGMem
import Derived.ProofKit
import Derived.SizedLaws

set_option linter.unusedVariables false
set_option linter.unusedSimpArgs false
set_option maxRecDepth 100000
set_option maxHeartbeats 6400000
namespace Go.Proofs.YtikehjindobpkaaGreat
open Go.ChangeShapes Go.WideShapes Go.ChangeAt Go.RowKit Num
theorem zmB:Tryz.prog.cellsOf 80=1:=by kernel_rfl
end Go.Proofs.YtikehjindobpkaaGreat
