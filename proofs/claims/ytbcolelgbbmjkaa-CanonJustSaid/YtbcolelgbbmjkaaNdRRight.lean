/-
  node: the reference's Right.
-/
import Derived.Test.YtbcolelgbbmjkaaNdEnd

namespace Go.Proofs.Ytbcolelgbbmjkaa
set_option linter.unusedVariables false
set_option linter.unusedSimpArgs false
open Go.RowKit Nds
theorem quad_iff {l : List Nd} (hne : l ≠ []) (hl : looseB l = true) : quadB l = true ↔ (hollowB l l.length = false ∧ (∀ i, i < l.length → empB l (i + 1) = false ∧ at_ l i ∉ l.take i) ∧ endL l 1329 l.length [] = upto l.length) := by
  have hpos : 0 < l.length := List.length_pos_iff.2 hne
  have hv := (fit_lv (loose_iff.1 hl (l.length - 1) (by omega))).2
  have hw := wk_end hl 1329 l.length 0 hpos (Nat.le_refl _) hv hpos
  have h0 : upto 0 = [] := rfl
  rw [h0] at hw
  unfold quadB
  rw [decide_eq_false hne, hl]
  simp only [Bool.false_or, Bool.true_and, Bool.and_eq_true, Bool.not_eq_true', decide_eq_true_iff]
  constructor
  · rintro ⟨hd, hh, hwk⟩
    have hd' := dist_iff.1 hd
    refine ⟨hh, fun i hi => ⟨?_, (hd' i hi).2⟩, ?_⟩
    · rw [emp_at hl hi]
      exact no_empty hl (fun j hj => (hd' j hj).1) i hi
    · rcases hw with ⟨_, h2⟩ | ⟨h1, _⟩
      · exact h2
      · rw [h1] at hwk
        cases hwk
  · rintro ⟨hh, hd, he⟩
    refine ⟨dist_iff.2 fun i hi => ⟨?_, (hd i hi).2⟩, hh, ?_⟩
    · cases hz : (at_ l i).each (· == 0)
      · rfl
      · have h1 := (hd i hi).1
        rw [emp_at hl hi, emp_zero hz] at h1
        cases h1
    · rcases hw with ⟨h1, _⟩ | ⟨_, h2⟩
      · exact h1
      · exact absurd (by rw [he]; exact List.prefix_rfl) (h2 l.length)
theorem at_not_take {l : List Nd} {k : Nat} (hk : k < l.length) (h : ∀ j, j < k → at_ l k ≠ at_ l j) : at_ l k ∉ l.take k := by
  intro hm
  obtain ⟨j, hj⟩ := List.mem_iff_getElem?.1 hm
  have hjl := (List.getElem?_eq_some_iff.1 hj).1
  rw [List.length_take] at hjl
  refine h j (by omega) ?_
  rw [← at_take (l := l) (k := k) (i := j) (by omega)]
  conv => rhs; unfold at_
  rw [hj]
  rfl
end Go.Proofs.Ytbcolelgbbmjkaa
