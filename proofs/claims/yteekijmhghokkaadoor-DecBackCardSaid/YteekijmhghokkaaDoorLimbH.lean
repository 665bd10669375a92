/-
  LimbBack holds of every input.
-/
import Derived.Test.YteekijmhghokkaaDoorLimbG

namespace Go.Proofs.YteekijmhghokkaaDoor
set_option linter.unusedVariables false
set_option linter.unusedSimpArgs false
open Go.RowKit Num
theorem us_pair (W : World) (u v : Nat) (t : TypeId) (hu : u < 4294967296) (hv : v < 4294967296) : Us (W.alloc (.cells #[.int .u32 (u : Int), .int .u32 (v : Int)] t)) (some ⟨W.heap.size, 0, none⟩) 2 [u, v] := by
  refine ⟨Dig.cons hu (Dig.cons hv Dig.nil), by simp, by simp [maxLen], fun _ => ⟨_, 0, rfl, by simp, fun j x hx => ?_⟩⟩
  have h := heap_alloc_new W (.cells #[.int .u32 (u : Int), .int .u32 (v : Int)] t)
  rw [cell_of_row _ _ _ _ _ _ h]
  simp only [Nat.zero_add, List.map_cons, List.map_nil, List.getElem?_toArray] at hx ⊢
  exact hx
end Go.Proofs.YteekijmhghokkaaDoor
