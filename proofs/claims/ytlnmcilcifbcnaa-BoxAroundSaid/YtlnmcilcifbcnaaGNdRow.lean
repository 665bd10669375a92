/-
  From a call's reading to the walks' facts: lists of nodes.
-/
import Derived.Test.YtlnmcilcifbcnaaGNdMem
import Derived.Test.YtlnmcilcifbcnaaRows
import Derived.ProofKit
import Derived.SizedLaws
import Derived.OpenShut
import Derived.ChangeMaps5
import Derived.Lib.SmallJoins
import Derived.Deep.Slices
import Derived.Deep.Fields

set_option linter.unusedVariables false
set_option linter.unusedSimpArgs false
set_option maxRecDepth 100000
namespace Go.Proofs.Ytlnmcilcifbcnaa
open Go.ChangeShapes Go.WideShapes Go.ChangeAt Go.RowKit Go.Deep Nds
theorem nrow_own : ownKnob Try.prog.godebug = none := by kernel_rfl
theorem nrow_laid : laidOutB Try.prog = true := by kernel_rfl
section
variable {H : Type} {enc : TypeId × Value → H} {W : World} {base : Nat} {spare : Nat → Bool} {held : Bool}
end
end Go.Proofs.Ytlnmcilcifbcnaa
