/-
  node: quads, plain: who is a quarter of whom.
-/
import Derived.Test.YtilhnnbmplnnpaaNdRRight

namespace Go.Proofs.Ytilhnnbmplnnpaa
set_option linter.unusedVariables false
set_option linter.unusedSimpArgs false
open Nds
/-- A quarter of one behind it. -/
def HasPar (l : List Nd) (v : Nat) : Prop := ∃ u, v < u ∧ u ≤ l.length ∧ 1 < (at_ l (u - 1)).lv ∧ ∃ c, c < 4 ∧ (at_ l (u - 1)).kid c = (v : Int)
theorem endL_par {l : List Nd} (hl : looseB l = true) : ∀ (m n : Nat) (out : List Nat), 0 < n → n ≤ l.length → ∀ v ∈ endL l m n out, v ∈ out ∨ v = n ∨ ((at_ l (v - 1)).lv < (at_ l (n - 1)).lv ∧ HasPar l v)
  | 0, _, _, _, _ => fun v hv => .inl hv
  | m + 1, n, out, h0, hn => by
    intro v hv
    unfold endL at hv
    split at hv
    · exact .inl hv
    · rw [List.mem_append] at hv
      rcases hv with hv | hv
      · split at hv
        · rename_i hlv
          have key : ∀ k, k ≤ 4 → ∀ v ∈ foldL (endL l m) (at_ l (n - 1)) out k, v ∈ out ∨ ((at_ l (v - 1)).lv < (at_ l (n - 1)).lv ∧ HasPar l v) := by
            intro k
            induction k with
            | zero => exact fun _ v hv => .inl hv
            | succ k ih =>
              intro hk v hv
              unfold foldL stepL at hv
              split at hv
              · rename_i hpos
                rcases kid_of hl h0 hn hlv (i := k) (by omega) with e | ⟨p, e, hp, hpn, hpl⟩
                · omega
                · rw [e, Int.toNat_natCast] at hv
                  rcases endL_par hl m p _ hp (by omega) v hv with h | h | ⟨h1, h2⟩
                  · exact ih (by omega) v h
                  · subst h
                    exact .inr ⟨by omega, n, hpn, hn, hlv, k, by omega, e⟩
                  · exact .inr ⟨by omega, h2⟩
              · exact ih (by omega) v hv
          rcases key 4 (by omega) v hv with h | h
          · exact .inl h
          · exact .inr (.inr h)
        · exact .inl hv
      · exact .inr (.inl (by simpa using hv))
theorem quad_par {l : List Nd} (hq : quadB l = true) (hne : l ≠ []) {i : Nat} (hi : i < l.length) : i + 1 = l.length ∨ ((at_ l i).lv < (at_ l (l.length - 1)).lv ∧ HasPar l (i + 1)) := by
  have hl : looseB l = true := by
    unfold quadB at hq
    rw [decide_eq_false hne, Bool.false_or, Bool.and_eq_true] at hq
    exact hq.1
  have he := ((quad_iff hne hl).1 hq).2.2
  have hm : i + 1 ∈ endL l 1329 l.length [] := by
    rw [he]
    exact mem_upto.2 ⟨by omega, by omega⟩
  rcases endL_par hl 1329 l.length [] (by omega) (Nat.le_refl _) (i + 1) hm with h | h | ⟨h1, h2⟩
  · cases h
  · exact .inl h
  · exact .inr ⟨h1, h2⟩
theorem quad_loose {l : List Nd} (hq : quadB l = true) : looseB l = true := by
  by_cases hne : l = []
  · subst hne
    rfl
  · unfold quadB at hq
    rw [decide_eq_false hne, Bool.false_or, Bool.and_eq_true] at hq
    exact hq.1
/-- With a node twice it may not be. -/
theorem quad_twice {l : List Nd} {k : Nat} (hk : k < l.length) : quadB (l.take k ++ [at_ l k] ++ l.drop k) = false := by
  have htk : (l.take k).length = k := by rw [List.length_take]; omega
  have hdk : (l.drop k)[0]? = some (at_ l k) := by
    rw [List.getElem?_drop]
    unfold at_
    rw [Nat.add_zero, List.getElem?_eq_getElem hk]
    rfl
  obtain ⟨x, hx⟩ : ∃ x, x = at_ l k := ⟨_, rfl⟩
  rw [← hx] at hdk ⊢
  obtain ⟨t, ht⟩ : ∃ t, t = l.take k := ⟨_, rfl⟩
  obtain ⟨d, hd⟩ : ∃ d, d = l.drop k := ⟨_, rfl⟩
  rw [← ht] at htk ⊢
  rw [← hd] at hdk ⊢
  have h1 : (t ++ [x] ++ d)[k]? = some x := by
    rw [List.append_assoc, List.getElem?_append_right (by omega), htk, Nat.sub_self]
    rfl
  have h2 : (t ++ [x] ++ d)[k + 1]? = some x := by
    rw [List.getElem?_append_right (by simp; omega)]
    have e : k + 1 - (t ++ [x]).length = 0 := by simp; omega
    rw [e]
    exact hdk
  have hlen := (List.getElem?_eq_some_iff.1 h2).1
  obtain ⟨T, hT⟩ : ∃ T, T = t ++ [x] ++ d := ⟨_, rfl⟩
  rw [← hT] at h1 h2 hlen ⊢
  have hne : T ≠ [] := fun e => by rw [e] at hlen; simp at hlen
  have e1 : at_ T k = x := by unfold at_; rw [h1]; rfl
  have e2 : at_ T (k + 1) = x := by unfold at_; rw [h2]; rfl
  have hd2 : distB T = false := by
    cases hq : distB T
    · rfl
    · refine absurd ?_ (dist_iff.1 hq (k + 1) hlen).2
      rw [e2, ← e1, ← at_take (l := T) (k := k + 1) (i := k) (by omega)]
      exact at_mem (l := T.take (k + 1)) (by rw [List.length_take]; omega)
  unfold quadB
  rw [decide_eq_false hne, hd2]
  simp
theorem quad_hollow {l : List Nd} (hq : quadB l = true) (hne : l ≠ []) : hollowB l l.length = false := ((quad_iff hne (quad_loose hq)).1 hq).1
theorem quad_empty {l : List Nd} (hq : quadB l = true) (hne : l ≠ []) {i : Nat} (hi : i < l.length) : empB l (i + 1) = false := (((quad_iff hne (quad_loose hq)).1 hq).2.1 i hi).1
end Go.Proofs.Ytilhnnbmplnnpaa
