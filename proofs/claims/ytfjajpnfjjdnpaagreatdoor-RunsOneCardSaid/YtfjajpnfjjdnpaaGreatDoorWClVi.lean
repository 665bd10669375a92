import Derived.Test.YtfjajpnfjjdnpaaGreatDoorWFtG

set_option linter.unusedVariables false
set_option linter.unusedSimpArgs false
set_option maxRecDepth 100000
set_option maxHeartbeats 6400000
namespace Go.Proofs.YtfjajpnfjjdnpaaGreatDoor
open Go.RowKit Num Nds Txt
theorem zgZ {L:List (List UInt8)}{k:Nat}(hk:k<L.length):tat L k∈L:=by
 unfold tat;rw[List.getElem?_eq_getElem hk];exact List.getElem_mem hk
end Go.Proofs.YtfjajpnfjjdnpaaGreatDoor
