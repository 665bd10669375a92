import Derived.Test.YtbabbmdpgpcgjaaGreatDoorRows
import Derived.Test.YtbabbmdpgpcgjaaGreatDoorCards
import Derived.ProofKit
import Derived.KernelRfl

set_option linter.unusedVariables false
set_option linter.unusedSimpArgs false
set_option maxRecDepth 100000
set_option maxHeartbeats 6400000
namespace Go.Proofs.YtbabbmdpgpcgjaaGreatDoor.PlainNoiseCard
theorem goes:false=Rows.plainNoiseRow.goesBy Tryz.checked.prog:=by kernel_rfl
end Go.Proofs.YtbabbmdpgpcgjaaGreatDoor.PlainNoiseCard
