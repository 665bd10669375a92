/-
  The reference's Shr of big numbers.
-/
import Derived.Test.YteekijmhghokkaaDoorNumbB

namespace Go.Proofs.YteekijmhghokkaaDoor
set_option linter.unusedVariables false
set_option linter.unusedSimpArgs false
open Go.RowKit Num
theorem Us.alloc {w : World} {A : Option Addr} {c : Nat} {xs : List Nat} (h : Us w A c xs) (o : Obj) : Us (w.alloc o) A c xs := h.below ((Below.refl _ w).alloc (Nat.le_refl _) o)
/-- Behind 'q := ..'. -/
def ShrCut (w : World) (s : Bool) (A : Option Addr) (c m : Nat) (z : Int) (k : Nat) (s5 : Value) (wx : World) : Prop :=
  ∃ g A2 c2 s2 r2, s5 = .pointer (some ⟨g, 0, none⟩) ∧ Us wx A2 c2 r2 ∧ CanonI s2 r2 ∧ ival s2 r2 = z ∧ r2.length ≤ k ∧ Box wx g (.bool s2) (.slice A2 r2.length c2) ∧ Box wx w.heap.size (.bool s) (.slice A m c) ∧ Box wx (w.heap.size + 1) (.bool false) (.slice none 0 0) ∧ w.heap.size + 1 < g ∧ Below w.heap.size w wx
theorem Box.far {w : World} {g g' o : Nat} {x y : Value} (h : Box w g x y) (hne : g ≠ g') (v : Value) : Box (w.setCell ⟨g', o, none⟩ v) g x y := by
  obtain ⟨h1, h2, h3, h4, h5⟩ := h
  refine ⟨?_, ?_, ?_, ?_, by simpa using h5⟩
  · rw [World.cell?_setCell_other _ _ _ _ (by simp [Ne.symm hne])]; exact h1
  · rw [World.cell?_setCell_other _ _ _ _ (by simp [Ne.symm hne])]; exact h2
  · rw [World.frozen?_setCell]; exact h3
  · rw [World.frozen?_setCell]; exact h4
theorem ShrCut.alloc {w w2 : World} {s s2 : Bool} {A A2 : Option Addr} {c c2 m k : Nat} {z : Int} {r2 : List Nat} (hb : Below w.heap.size w w2) (hX : Box w2 w.heap.size (.bool s) (.slice A m c)) (hR : Box w2 (w.heap.size + 1) (.bool false) (.slice none 0 0))
    (q2 : Us w2 A2 c2 r2) (k2 : CanonI s2 r2) (v2 : ival s2 r2 = z) (hl : r2.length ≤ k) (t : TypeId) : ShrCut w s A c m z k (.pointer (some ⟨w2.heap.size, 0, none⟩)) (w2.alloc (.cells #[.bool s2, .slice A2 r2.length c2] t)) :=
  ⟨_, A2, c2, s2, r2, rfl, q2.alloc _, k2, v2, hl, Box.new _ _ _ _, hX.alloc _, hR.alloc _, hR.2.2.2.2, hb.alloc hb.size _⟩
theorem ShrCut.set {w w2 : World} {s s2 s0 : Bool} {A A2 A0 : Option Addr} {c c2 m k g n0 c0 : Nat} {z : Int} {r2 : List Nat} (hb : Below w.heap.size w w2) (hX : Box w2 w.heap.size (.bool s) (.slice A m c)) (hR : Box w2 (w.heap.size + 1) (.bool false) (.slice none 0 0))
    (hg : w.heap.size + 1 < g) (hQ : Box w2 g (.bool s0) (.slice A0 n0 c0)) (q2 : Us w2 A2 c2 r2) (k2 : CanonI s2 r2) (v2 : ival s2 r2 = z) (hl : r2.length ≤ k) :
    ShrCut w s A c m z k (.pointer (some ⟨g, 0, none⟩)) ((w2.setCell ⟨g, 0, none⟩ (.bool s2)).setCell ⟨g, 1, none⟩ (.slice A2 r2.length c2)) :=
  ⟨g, A2, c2, s2, r2, rfl, q2.boxed hQ _ _, k2, v2, hl, hQ.set _ _, (hX.far (by omega) _).far (by omega) _, (hR.far (by omega) _).far (by omega) _, hg, (hb.setCell (p := ⟨g, 0, none⟩) (by simp; omega) _).setCell (p := ⟨g, 1, none⟩) (by simp; omega) _⟩
end Go.Proofs.YteekijmhghokkaaDoor
