import Derived.Test.YtfjajpnfjjdnpaaGreatDoorWMem
import Derived.ProofKit
import Derived.SizedLaws

set_option linter.unusedVariables false
set_option linter.unusedSimpArgs false
set_option maxRecDepth 100000
set_option maxHeartbeats 6400000
namespace Go.Proofs.YtfjajpnfjjdnpaaGreatDoor
open Go.ChangeShapes Go.WideShapes Go.ChangeAt Go.RowKit Num
theorem zmX:Tryz.prog.cellsOf 137=1:=by kernel_rfl
end Go.Proofs.YtfjajpnfjjdnpaaGreatDoor
