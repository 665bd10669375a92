/-
  node: Empty, Hollow.
-/
import Derived.Test.YtbcolelgbbmjkaaNdEmpty

namespace Go.Proofs.Ytbcolelgbbmjkaa
set_option linter.unusedVariables false
set_option linter.unusedSimpArgs false
open Go.RowKit Nds
/-- A quarter without what touches the middle. -/
def rim (x : Nd) (i : Nat) : Nd := match i with | 0 => { x with d := 0 } | 1 => { x with c := 0 } | 2 => { x with b := 0 } | _ => { x with a := 0 }
theorem rim_lv (x : Nd) (i : Nat) : (rim x i).lv = x.lv := by
  unfold rim
  split <;> rfl
theorem rim_kid (x : Nd) (i j : Nat) : (rim x i).kid j = 0 ∨ (rim x i).kid j = x.kid j := by
  unfold rim
  split <;> (unfold Nd.kid; split <;> simp)
theorem kid_zero (l : List Nd) (v : Int) : kidB l v 0 = true := by
  unfold kidB
  split
  · exact decide_eq_true (by omega)
  · exact decide_eq_true (.inl rfl)
theorem rim_fit {l : List Nd} {x : Nd} (h : fitB l x = true) (i : Nat) : fitB l (rim x i) = true := by
  have hv := fit_lv h
  unfold fitB
  rw [rim_lv, Bool.and_eq_true, each_iff]
  refine ⟨decide_eq_true hv, fun j hj => ?_⟩
  rcases rim_kid x i j with e | e
  · rw [e]; exact kid_zero _ _
  · rw [e]; exact fit_kid h hj
def hollowB (l : List Nd) (n : Nat) : Bool :=
  decide (0 < n ∧ 2 ≤ (at_ l (n - 1)).lv) && (List.range 4).all fun i => decide ((at_ l (n - 1)).kid i = 0) || nodeEmp l (rim (at_ l (((at_ l (n - 1)).kid i).toNat - 1)) i)
theorem all4_no {p : Nat → Bool} {k : Nat} (hk : k < 4) (h : p k = false) : false = (List.range 4).all p := by
  cases hq : (List.range 4).all p
  · rfl
  · have := List.all_eq_true.1 hq k (List.mem_range.2 hk)
    rw [h] at this
    cases this
theorem all4_yes {p : Nat → Bool} (h : ∀ j, j < 4 → p j = true) : true = (List.range 4).all p :=
  (List.all_eq_true.2 fun j hj => h j (List.mem_range.1 hj)).symm
end Go.Proofs.Ytbcolelgbbmjkaa
