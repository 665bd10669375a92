import Derived.Test.YtfjajpnfjjdnpaaGreatDoorTBxT

set_option linter.unusedVariables false
set_option linter.unusedSimpArgs false
set_option maxRecDepth 100000
set_option maxHeartbeats 6400000
namespace Go.Proofs.YtfjajpnfjjdnpaaGreatDoor
open Go.RowKit Num Nds
def zpR (ax e j:Nat):Nat:=if ax=0 then e+2*j else 2*e+j
def kk (ax e j:Nat):Nat:=if j<2 then zpR ax e j else zpR ax (1-e) (j-2)
end Go.Proofs.YtfjajpnfjjdnpaaGreatDoor
