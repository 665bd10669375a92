import Derived.Test.YtbabbmdpgpcgjaaGreatDoorHNdMem
import Derived.ProofKit
import Derived.SizedLaws
import Derived.OpenShut
import Derived.ChangeMaps5
import Derived.Lib.SmallJoins
import Derived.Deep.Slices
import Derived.Deep.Fields

set_option linter.unusedVariables false
set_option linter.unusedSimpArgs false
set_option maxRecDepth 100000
set_option maxHeartbeats 6400000
namespace Go.Proofs.YtbabbmdpgpcgjaaGreatDoor
open Go.ChangeShapes Go.WideShapes Go.ChangeAt Go.RowKit Go.Deep Nds
theorem zsD:ownKnob Tryz.prog.godebug=none:=by kernel_rfl
theorem zjX:laidOutB Tryz.prog=true:=by kernel_rfl
end Go.Proofs.YtbabbmdpgpcgjaaGreatDoor
