/-
  node: Right, Level, Same; the reference's Nodes.
-/
import Derived.Test.YtbcolelgbbmjkaaNdHollow
import Derived.Test.YtbcolelgbbmjkaaNdMap
import Derived.Test.YtbcolelgbbmjkaaNdsW

namespace Go.Proofs.Ytbcolelgbbmjkaa
set_option linter.unusedVariables false
set_option linter.unusedSimpArgs false
open Go.RowKit Nds
def quadB (l : List Nd) : Bool := decide (l = []) || (looseB l && (distB l && (!hollowB l l.length && decide (wk l 1329 l.length 0 = some l.length))))
end Go.Proofs.Ytbcolelgbbmjkaa
