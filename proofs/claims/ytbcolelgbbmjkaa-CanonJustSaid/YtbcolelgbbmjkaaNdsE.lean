/-
  node: empty nodes, plain.
-/
import Derived.Test.YtbcolelgbbmjkaaNds

namespace Go.Proofs.Ytbcolelgbbmjkaa.Nds
set_option linter.unusedVariables false
set_option linter.unusedSimpArgs false
theorem each_congr {x : Nd} {p q : Int → Bool} (h : ∀ i, i < 4 → p (x.kid i) = q (x.kid i)) : x.each p = x.each q := by
  have h0 : p x.a = q x.a := h 0 (by omega)
  have h1 : p x.b = q x.b := h 1 (by omega)
  have h2 : p x.c = q x.c := h 2 (by omega)
  have h3 : p x.d = q x.d := h 3 (by omega)
  unfold Nd.each
  rw [h0, h1, h2, h3]
/-- Is a node empty, where of each number ahead it is known? -/
def nodeE (es : List Bool) (x : Nd) : Bool := x.each fun c => c == 0 || (decide (1 < x.lv) && es.getD c.toNat false)
def emps (l : List Nd) : List Bool := l.foldl (fun es x => es ++ [nodeE es x]) [true]
def empB (l : List Nd) (n : Nat) : Bool := (emps l).getD n false
def nodeEmp (l : List Nd) (x : Nd) : Bool := nodeE (emps l) x
theorem emps_snoc (l : List Nd) (x : Nd) : emps (l ++ [x]) = emps l ++ [nodeE (emps l) x] := by
  unfold emps
  rw [List.foldl_append]
  rfl
theorem emps_len (l : List Nd) : (emps l).length = l.length + 1 := by
  suffices h : ∀ k, k ≤ l.length → (emps (l.take k)).length = k + 1 by
    have := h l.length (Nat.le_refl _)
    rwa [List.take_of_length_le (Nat.le_refl _)] at this
  intro k
  induction k with
  | zero => intro _; rfl
  | succ k ih =>
    intro hk
    rw [take_at (by omega), emps_snoc, List.length_append, ih (by omega)]
    rfl
theorem emps_take (l : List Nd) : ∀ k, k ≤ l.length → emps (l.take k) = (emps l).take (k + 1) := by
  suffices h : ∀ d k, k + d = l.length → emps (l.take k) = (emps l).take (k + 1) from fun k hk => h (l.length - k) k (by omega)
  intro d
  induction d with
  | zero =>
    intro k hk
    rw [List.take_of_length_le (by omega), List.take_of_length_le (by rw [emps_len]; omega)]
  | succ d ih =>
    intro k hk
    have h := ih (k + 1) (by omega)
    rw [take_at (by omega), emps_snoc] at h
    have hl : (emps (l.take k)).length = k + 1 := by rw [emps_len, List.length_take]; omega
    have := congrArg (List.take (k + 1)) h
    rw [List.take_append_of_le_length (by omega), List.take_of_length_le (by omega), List.take_take] at this
    rw [this]
    congr 1
    omega
theorem emps_at {l : List Nd} {i : Nat} (hi : i < l.length) : empB l (i + 1) = nodeE (emps (l.take i)) (at_ l i) := by
  have h := emps_take l (i + 1) (by omega)
  rw [take_at hi, emps_snoc] at h
  have hl : (emps (l.take i)).length = i + 1 := by rw [emps_len, List.length_take]; omega
  have h2 : ((emps l).take (i + 1 + 1))[i + 1]? = some (nodeE (emps (l.take i)) (at_ l i)) := by
    rw [← h, List.getElem?_append_right (by omega), hl]
    simp
  rw [List.getElem?_take, if_pos (by omega)] at h2
  unfold empB
  rw [List.getD_eq_getElem?_getD, h2]
  rfl
/-- What a node's kids are, if it fits. -/
theorem fit_lv {l : List Nd} {x : Nd} (h : fitB l x = true) : 1 ≤ x.lv ∧ x.lv ≤ 1329 := by
  unfold fitB at h
  rw [Bool.and_eq_true, decide_eq_true_iff] at h
  exact h.1
theorem fit_kid {l : List Nd} {x : Nd} (h : fitB l x = true) {i : Nat} (hi : i < 4) : kidB l x.lv (x.kid i) = true := by
  unfold fitB at h
  rw [Bool.and_eq_true, each_iff] at h
  exact h.2 i hi
theorem kid_up {l : List Nd} {v k : Int} (hv : v ≠ 1) (h : kidB l v k = true) : k = 0 ∨ ∃ m : Nat, k = (m : Int) + 1 ∧ m < l.length ∧ (at_ l m).lv = v - 1 := by
  unfold kidB at h
  rw [if_neg hv, decide_eq_true_iff] at h
  rcases h with h | ⟨h1, h2, h3⟩
  · exact .inl h
  · refine .inr ⟨k.toNat - 1, by omega, by omega, h3⟩
theorem kid_mono {l : List Nd} {i : Nat} {v k : Int} (h : kidB (l.take i) v k = true) : kidB l v k = true := by
  by_cases hv : v = 1
  · subst hv
    exact h
  · have hle := List.length_take_le' i l
    have hli := List.length_take_le i l
    rcases kid_up hv h with rfl | ⟨m, rfl, hm, hl⟩
    · unfold kidB
      rw [if_neg hv]
      exact decide_eq_true (.inl rfl)
    · unfold kidB
      rw [if_neg hv]
      have e : ((m : Int) + 1).toNat - 1 = m := by omega
      rw [at_take (by omega)] at hl
      exact decide_eq_true (.inr ⟨by omega, by omega, by rw [e]; exact hl⟩)
theorem fit_mono {l : List Nd} {i : Nat} {x : Nd} (h : fitB (l.take i) x = true) : fitB l x = true := by
  have h1 := fit_lv h
  unfold fitB
  rw [Bool.and_eq_true, each_iff]
  exact ⟨decide_eq_true h1, fun j hj => kid_mono (fit_kid h hj)⟩
theorem loose_iff {l : List Nd} : looseB l = true ↔ ∀ i, i < l.length → fitB (l.take i) (at_ l i) = true := by
  unfold looseB
  rw [List.all_eq_true]
  exact ⟨fun h i hi => h i (List.mem_range.2 hi), fun h i hi => h i (List.mem_range.1 hi)⟩
theorem loose_fit {l : List Nd} (h : looseB l = true) {i : Nat} (hi : i < l.length) : fitB l (at_ l i) = true := fit_mono (loose_iff.1 h i hi)
/-- The node of level 1. -/
theorem emp_one {l : List Nd} {x : Nd} (h : x.lv = 1) : nodeEmp l x = x.each (· == 0) := by
  unfold nodeEmp nodeE
  refine each_congr fun i hi => ?_
  rw [h]
  simp
theorem emp_up {l : List Nd} {x : Nd} (h : 1 < x.lv) : nodeEmp l x = x.each fun c => c == 0 || empB l c.toNat := by
  unfold nodeEmp nodeE
  refine each_congr fun i hi => ?_
  rw [decide_eq_true h, Bool.true_and]
  rfl
theorem nodeE_take {l : List Nd} {i : Nat} {x : Nd} (hi : i ≤ l.length) (h : fitB (l.take i) x = true) : nodeE (emps (l.take i)) x = nodeEmp l x := by
  have hv := fit_lv h
  by_cases h1 : x.lv = 1
  · exact (emp_one (l := l.take i) h1).trans (emp_one h1).symm
  · refine (emp_up (l := l.take i) (by omega)).trans (Eq.trans ?_ (emp_up (by omega)).symm)
    refine each_congr fun j hj => ?_
    rcases kid_up h1 (fit_kid h hj) with e | ⟨m, e, hm, _⟩
    · rw [e]; rfl
    · rw [e]
      congr 1
      have hli := List.length_take_le i l
      unfold empB
      rw [emps_take l i hi, List.getD_eq_getElem?_getD, List.getD_eq_getElem?_getD, List.getElem?_take, if_pos (by omega)]
theorem emp_at {l : List Nd} (h : looseB l = true) {i : Nat} (hi : i < l.length) : empB l (i + 1) = nodeEmp l (at_ l i) := by
  rw [emps_at hi]
  exact nodeE_take (by omega) (loose_iff.1 h i hi)
/-- Kids all 0: empty. -/
theorem emp_zero {l : List Nd} {x : Nd} (h : x.each (· == 0) = true) : nodeEmp l x = true := by
  unfold nodeEmp nodeE
  rw [each_iff] at h ⊢
  intro i hi
  rw [h i hi]
  rfl
/-- In a loose list in which no node's kids are all 0 none is empty. -/
theorem no_empty {l : List Nd} (h : looseB l = true) (hz : ∀ i, i < l.length → (at_ l i).each (· == 0) = false) : ∀ i, i < l.length → nodeEmp l (at_ l i) = false := by
  intro i
  induction i using Nat.strongRecOn with
  | _ i ih =>
    intro hi
    have hf := loose_iff.1 h i hi
    have hv := fit_lv hf
    by_cases h1 : (at_ l i).lv = 1
    · rw [emp_one h1]
      exact hz i hi
    · rw [emp_up (by omega)]
      cases hq : (at_ l i).each fun c => c == 0 || empB l c.toNat
      · rfl
      · exfalso
        have hall := each_iff.1 hq
        have hzero : (at_ l i).each (· == 0) = true := by
          rw [each_iff]
          intro j hj
          rcases kid_up h1 (fit_kid hf hj) with e | ⟨m, e, hm, _⟩
          · rw [e]; rfl
          · have hli := List.length_take_le i l
            have ht := hall j hj
            rw [e] at ht
            have e2 : ((m : Int) + 1).toNat = m + 1 := by omega
            rw [e2, emp_at h (by omega), ih m (by omega) (by omega), Bool.or_false] at ht
            rw [e]
            exact ht
        rw [hz i hi] at hzero
        cases hzero
end Go.Proofs.Ytbcolelgbbmjkaa.Nds
