/-
  node: the reference's end, Right.
-/
import Derived.Test.YtbcolelgbbmjkaaNdRHol
import Derived.Test.YtbcolelgbbmjkaaNdRight
import Derived.Test.YtbcolelgbbmjkaaNdSame

namespace Go.Proofs.Ytbcolelgbbmjkaa
set_option linter.unusedVariables false
set_option linter.unusedSimpArgs false
open Go.RowKit Nds
def OwnI (w : World) (base : Nat) (v : Value) (xs : List Nat) : Prop := w.ownsRow base 3 1 v xs.length (xs.map fun k : Nat => Value.int .i64 (k : Int))
theorem OwnI.shape {w : World} {base : Nat} {v : Value} {xs : List Nat} (h : OwnI w base v xs) : ∃ A c, v = .slice A xs.length c ∧ xs.length ≤ c ∧ c ≤ 9223372036854775807 ∧
    (0 < xs.length → ∃ g, A = some ⟨g, 0, none⟩ ∧ ∀ j, j < xs.length → w.cell? ⟨g, j, none⟩ = some (.int .i64 ((xs.getD j 0 : Nat) : Int))) := by
  rcases h.2 with ⟨h', hn⟩ | ⟨g, cap, cur, h', hb, hg, hnc, hcm, hcs, htake⟩
  · exact ⟨none, 0, by rw [h', hn], by omega, by omega, fun h => by omega⟩
  · simp only [maxLen] at hcm
    refine ⟨some ⟨g, 0, none⟩, cap, h', hnc, by omega, fun _ => ⟨g, rfl, fun j hj => ?_⟩⟩
    subst h'
    rw [h.cellAt j (by omega), List.getElem?_map, List.getD_eq_getElem?_getD, List.getElem?_eq_getElem hj]
    rfl
theorem OwnI.nil (w : World) (base : Nat) : OwnI w base (.slice none 0 0) [] := World.ownsRow_nil w base _ 1
theorem OwnI.none {w : World} {base : Nat} (h : True) : OwnI w base (.slice none 0 0) [] := OwnI.nil w base
end Go.Proofs.Ytbcolelgbbmjkaa
