/-
  cells: the tree of a list of cells, by quarters; plain.
  cells: the builder's node: quarter by quarter.
-/
import Derived.Test.YtlnmcilcifbcnaaGClSo
import Derived.Test.YtlnmcilcifbcnaaGClRa
import Derived.Test.YtlnmcilcifbcnaaGClOx
import Derived.Test.YtlnmcilcifbcnaaGNcRV
import Derived.Test.YtlnmcilcifbcnaaGNcAd
import Derived.Deep.QuietTactic
import Derived.BigQuiet
import Derived.Deep.RegionHeld3

set_option linter.unusedVariables false
set_option linter.unusedSimpArgs false
set_option maxRecDepth 100000
namespace Go.Proofs.Ytlnmcilcifbcnaa
open Nds Num
def Cv.cn (v : Cv) : Cl := ⟨(val v.xs : Nat), (val v.ys : Nat), v.st⟩
end Go.Proofs.Ytlnmcilcifbcnaa

namespace Go.Proofs.Ytlnmcilcifbcnaa
open Go.RowKit Nds Num
theorem Cs.take {w : World} {A : Option Addr} {c : Nat} {l : List Cv} (h : Cs w A c l) (k : Nat) : Cs w A c (l.take k) := by
 refine ⟨fun v hv => h.1 v (List.mem_of_mem_take hv), by rw [List.length_take]; have := h.2.1; omega, h.2.2.1, fun hn => ?_⟩
 rw [List.length_take] at hn
 obtain ⟨b, off, e, hb, hc⟩ := h.2.2.2 (by omega)
 refine ⟨b, off, e, hb, fun i hi => ?_⟩
 rw [List.length_take] at hi
 have e1 : cat (l.take k) i = cat l i := by
  unfold cat
  rw [List.getElem?_take, if_pos (by omega)]
 rw [e1]
 exact hc i (by omega)
end Go.Proofs.Ytlnmcilcifbcnaa
