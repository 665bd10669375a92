import Derived.Test.YtfjajpnfjjdnpaaGreatDoorRows
import Derived.Test.YtfjajpnfjjdnpaaGreatDoorCards
import Derived.ProofKit
import Derived.KernelRfl

set_option linter.unusedVariables false
set_option linter.unusedSimpArgs false
set_option maxRecDepth 100000
set_option maxHeartbeats 6400000
namespace Go.Proofs.YtfjajpnfjjdnpaaGreatDoor.RunsOneCard
theorem goes:false=Rows.runsOneRow.goesBy Tryz.checked.prog:=by kernel_rfl
end Go.Proofs.YtfjajpnfjjdnpaaGreatDoor.RunsOneCard
