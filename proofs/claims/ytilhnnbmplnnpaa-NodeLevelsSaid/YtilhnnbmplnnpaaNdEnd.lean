/-
  node: the reference's end, Right.
-/
import Derived.Test.YtilhnnbmplnnpaaNdREmp
import Derived.Test.YtilhnnbmplnnpaaNdHollow
import Derived.Test.YtilhnnbmplnnpaaNdRight
import Derived.Test.YtilhnnbmplnnpaaNdSame

namespace Go.Proofs.Ytilhnnbmplnnpaa
set_option linter.unusedVariables false
set_option linter.unusedSimpArgs false
open Go.RowKit Nds
def OwnI (w : World) (base : Nat) (v : Value) (xs : List Nat) : Prop := w.ownsRow base 3 1 v xs.length (xs.map fun k : Nat => Value.int .i64 (k : Int))
theorem OwnI.nil (w : World) (base : Nat) : OwnI w base (.slice none 0 0) [] := World.ownsRow_nil w base _ 1
theorem OwnI.none {w : World} {base : Nat} (h : True) : OwnI w base (.slice none 0 0) [] := OwnI.nil w base
end Go.Proofs.Ytilhnnbmplnnpaa
