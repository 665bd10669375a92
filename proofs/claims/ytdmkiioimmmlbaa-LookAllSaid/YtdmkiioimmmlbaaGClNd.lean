/-
  cells.standing: the cells that aren't overwritten, nor 0, in order.
  cells: the tree of a list of cells, by quarters; plain.
  cells: the builder's node: quarter by quarter.
-/
import Derived.Test.YtdmkiioimmmlbaaGClWi
import Derived.Test.YtdmkiioimmmlbaaGNcPB
import Derived.Deep.QuietTactic
import Derived.BigQuiet
import Derived.Test.YtdmkiioimmmlbaaGClK2
import Derived.Test.YtdmkiioimmmlbaaGNcRS
import Derived.Test.YtdmkiioimmmlbaaGNcOr
import Derived.Deep.RegionHeld3

namespace Go.Proofs.Ytdmkiioimmmlbaa
set_option maxRecDepth 100000
set_option linter.unusedVariables false
set_option linter.unusedSimpArgs false
open Go.RowKit Nds Num Go.Shelf
theorem OwnC.mono {w : World} {base base' : Nat} {v : Value} {l : List Cv} (h : OwnC w base v l) (hb : base' ≤ base) : OwnC w base' v l := by
 refine ⟨h.1, ?_⟩
 rcases h.2 with h | ⟨g, cap, cur, e, hb', rest⟩
 ·
  exact .inl h
 ·
  exact .inr ⟨g, cap, cur, e, by omega, rest⟩
end Go.Proofs.Ytdmkiioimmmlbaa

namespace Go.Proofs.Ytdmkiioimmmlbaa
set_option maxRecDepth 100000
set_option linter.unusedVariables false
set_option linter.unusedSimpArgs false
open Nds Num
def Cv.cn (v : Cv) : Cl := ⟨(val v.xs : Nat), (val v.ys : Nat), v.st⟩
end Go.Proofs.Ytdmkiioimmmlbaa

namespace Go.Proofs.Ytdmkiioimmmlbaa
set_option maxRecDepth 100000
set_option linter.unusedVariables false
set_option linter.unusedSimpArgs false
open Go.RowKit Nds Num
theorem Cs.take {w : World} {A : Option Addr} {c : Nat} {l : List Cv} (h : Cs w A c l) (k : Nat) : Cs w A c (l.take k) := by
 refine ⟨fun v hv => h.1 v (List.mem_of_mem_take hv), by rw [List.length_take]; have := h.2.1; omega, h.2.2.1, fun hn => ?_⟩
 rw [List.length_take] at hn
 obtain ⟨b, off, e, hb, hc⟩ := h.2.2.2 (by omega)
 refine ⟨b, off, e, hb, fun i hi => ?_⟩
 rw [List.length_take] at hi
 have e1 : cat (l.take k) i = cat l i := by
  unfold cat
  rw [List.getElem?_take, if_pos (by omega)]
 rw [e1]
 exact hc i (by omega)
theorem Cs.drop {w : World} {b off c : Nat} {l : List Cv} (h : Cs w (some ⟨b, off, none⟩) c l) (k : Nat) (hk : k ≤ l.length) (A' : Option Addr) (hA : k < l.length → A' = some ⟨b, off + k * 5, none⟩) : Cs w A' (c - k) (l.drop k) := by
 have h1 := h.2.1
 refine ⟨fun v hv => h.1 v (List.mem_of_mem_drop hv), by rw [List.length_drop]; omega, by have := h.2.2.1; omega, fun hn => ?_⟩
 rw [List.length_drop] at hn
 obtain ⟨b2, off2, e, hb, hc⟩ := h.2.2.2 (by omega)
 cases e
 refine ⟨b, off + k * 5, hA (by omega), hb, fun i hi => ?_⟩
 rw [List.length_drop] at hi
 have e1 : cat (l.drop k) i = cat l (k + i) := by
  unfold cat
  rw [List.getElem?_drop]
 rw [e1, show off + k * 5 + i * 5 = off + (k + i) * 5 by omega]
 exact hc (k + i) (by omega)
end Go.Proofs.Ytdmkiioimmmlbaa
