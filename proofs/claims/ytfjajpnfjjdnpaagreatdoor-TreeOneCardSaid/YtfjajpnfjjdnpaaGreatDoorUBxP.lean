import Derived.Test.YtfjajpnfjjdnpaaGreatDoorULkRi
import Derived.Test.YtfjajpnfjjdnpaaGreatDoorULkRw

set_option linter.unusedVariables false
set_option linter.unusedSimpArgs false
set_option maxRecDepth 100000
set_option maxHeartbeats 6400000
namespace Go.Proofs.YtfjajpnfjjdnpaaGreatDoor
open Go.RowKit Num Nds
def co (ax:Nat)(x y:Int):Int:=if ax=0 then x else y
def ds (ax e n:Nat)(x y:Int):Int:=if e=0 then co ax x y else p2 n-1-co ax x y
end Go.Proofs.YtfjajpnfjjdnpaaGreatDoor
