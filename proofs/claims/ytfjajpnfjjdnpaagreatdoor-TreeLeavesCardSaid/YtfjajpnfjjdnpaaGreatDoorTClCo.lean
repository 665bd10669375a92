import Derived.Test.YtfjajpnfjjdnpaaGreatDoorTNcLn

set_option linter.unusedVariables false
set_option linter.unusedSimpArgs false
set_option maxRecDepth 100000
set_option maxHeartbeats 6400000
namespace Go.Proofs.YtfjajpnfjjdnpaaGreatDoor
open Go.RowKit Num Nds
def inR (X:Int):Prop := -p2 1328≤X∧X<p2 1328
instance (X:Int):Decidable (inR X):=inferInstanceAs (Decidable (_∧_))
end Go.Proofs.YtfjajpnfjjdnpaaGreatDoor
