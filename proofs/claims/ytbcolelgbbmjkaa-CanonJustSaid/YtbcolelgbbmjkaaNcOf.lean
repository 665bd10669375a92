/-
  canon: CanonOf, the walk.
-/
import Derived.Test.YtbcolelgbbmjkaaNcAl
import Derived.Test.YtbcolelgbbmjkaaNdRRight

namespace Go.Proofs.Ytbcolelgbbmjkaa
set_option linter.unusedVariables false
set_option linter.unusedSimpArgs false
open Go.RowKit Nds
theorem ss_end {l : List Nd} {t : Tr} : ∀ (m : Nat) (cur : List Nd) (p : Nat), (at_ cur p).lv ≤ m → SS l t cur p → ∃ cur' p', SS l t cur' p' ∧ holT (den cur' (p' + 1)) = false := by
  intro m
  induction m with
  | zero =>
    intro cur p hm h
    have := fit_lv (loose_fit h.1 h.2.1)
    omega
  | succ m ih =>
    intro cur p hm h
    cases hh : holT (den cur (p + 1)) with
    | false => exact ⟨cur, p, h, hh⟩
    | true =>
      refine ih _ _ ?_ (h.next hh)
      rw [at_last]
      show (at_ cur p).lv - 1 ≤ _
      omega
theorem ofL_len {l : List Nd} (hl : looseB l = true) {n : Nat} (hn : n ≤ l.length) : (OfL l n).length ≤ l.length + 1328 := by
  cases n with
  | zero =>
    unfold OfL
    rw [den_zero, shr_e]
    exact Nat.zero_le _
  | succ p =>
    by_cases he : den l (p + 1) = .e
    · unfold OfL
      rw [he, shr_e]
      exact Nat.zero_le _
    · have hs := SS.start hl (p := p) (by omega) he
      have hv := fit_lv (loose_fit hl (i := p) (by omega))
      obtain ⟨cur, q, h1, h2⟩ := ss_end 1329 l p hv.2 hs
      have h3 := h1.len
      have h4 := inv_enc h1.1 (q + 1) [] (by have := h1.2.1; omega) (inv_nil cur)
      have h5 := h4.len
      have h6 : den cur (q + 1) = shrT (den l (p + 1)) := by rw [← h1.2.2.2.1, shr_done h2]
      rw [h6] at h5
      exact Nat.le_trans h5 h3
end Go.Proofs.Ytbcolelgbbmjkaa
