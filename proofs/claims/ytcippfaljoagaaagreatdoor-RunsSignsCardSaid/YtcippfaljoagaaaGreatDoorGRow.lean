import Derived.Test.YtcippfaljoagaaaGreatDoorGMem
import Derived.ProofKit
import Derived.SizedLaws

set_option linter.unusedVariables false
set_option linter.unusedSimpArgs false
set_option maxRecDepth 100000
set_option maxHeartbeats 6400000
namespace Go.Proofs.YtcippfaljoagaaaGreatDoor
open Go.ChangeShapes Go.WideShapes Go.ChangeAt Go.RowKit Num
theorem zlv:Tryz.prog.cellsOf 121=1:=by kernel_rfl
end Go.Proofs.YtcippfaljoagaaaGreatDoor
