import Derived.Test.YtfjajpnfjjdnpaaGreatDoorVLkRq
import Derived.Test.YtfjajpnfjjdnpaaGreatDoorVClRm

set_option linter.unusedVariables false
set_option linter.unusedSimpArgs false
set_option maxRecDepth 100000
set_option maxHeartbeats 6400000
namespace Go.Proofs.YtfjajpnfjjdnpaaGreatDoor
open Go.RowKit Num Nds
theorem zag {W:World}{g:Nat}{o:Obj}(h:W.heap[g]?=some o):g<W.heap.size:=(Array.getElem?_eq_some_iff.1 h).1
end Go.Proofs.YtfjajpnfjjdnpaaGreatDoor
