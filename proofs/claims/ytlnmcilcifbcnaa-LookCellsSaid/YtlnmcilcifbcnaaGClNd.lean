/-
  cells.standing: the cells that aren't overwritten, nor 0, in order.
  cells: the tree of a list of cells, by quarters; plain.
-/
import Derived.Test.YtlnmcilcifbcnaaGClWi
import Derived.Test.YtlnmcilcifbcnaaGNcPB
import Derived.Deep.QuietTactic
import Derived.BigQuiet
import Derived.Test.YtlnmcilcifbcnaaGClK2
import Derived.Test.YtlnmcilcifbcnaaGNcRS

set_option linter.unusedVariables false
set_option linter.unusedSimpArgs false
set_option maxRecDepth 100000
namespace Go.Proofs.Ytlnmcilcifbcnaa
open Go.RowKit Nds Num Go.Shelf
theorem OwnC.mono {w : World} {base base' : Nat} {v : Value} {l : List Cv} (h : OwnC w base v l) (hb : base' ≤ base) : OwnC w base' v l := by
 refine ⟨h.1, ?_⟩
 rcases h.2 with h | ⟨g, cap, cur, e, hb', rest⟩
 ·
  exact .inl h
 ·
  exact .inr ⟨g, cap, cur, e, by omega, rest⟩
end Go.Proofs.Ytlnmcilcifbcnaa

namespace Go.Proofs.Ytlnmcilcifbcnaa
open Nds Num
def Cv.cn (v : Cv) : Cl := ⟨(val v.xs : Nat), (val v.ys : Nat), v.st⟩
end Go.Proofs.Ytlnmcilcifbcnaa
