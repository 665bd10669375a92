/-
  canon: the reference's visit.
-/
import Derived.Test.YtbcolelgbbmjkaaNcRS

namespace Go.Proofs.Ytbcolelgbbmjkaa
set_option linter.unusedVariables false
set_option linter.unusedSimpArgs false
open Go.RowKit Nds
/-- Which numbers are known. -/
def Dn (l out : List Nd) (ds : List Nat) : Prop := ∀ i, i ≤ l.length → 0 < ds.getD i 0 → NumT out (den l i) ((ds.getD i 0 : Nat) : Int)
theorem Dn.pre {l out m : List Nd} {ds : List Nat} (h : Dn l out ds) (hp : out <+: m) : Dn l m ds := fun i hi h0 => num_pre hp (h i hi h0)
theorem Dn.set {l out : List Nd} {ds : List Nat} (h : Dn l out ds) {j u : Nat} (hu : NumT out (den l j) (u : Int)) : Dn l out (ds.set j u) := by
  intro i hi h0
  by_cases e : i = j
  · subst e
    by_cases hl : i < ds.length
    · rw [List.getD_eq_getElem?_getD, List.getElem?_set_self hl]
      exact hu
    · rw [List.set_eq_of_length_le (by omega)] at h0 ⊢
      exact h i hi h0
  · rw [List.getD_eq_getElem?_getD, List.getElem?_set_ne (fun e2 => e e2.symm), ← List.getD_eq_getElem?_getD] at h0 ⊢
    exact h i hi h0
theorem Ky.ns {P : Nat → Prop} {w w' : World} (h : Ky P w w') {A : Option Addr} {c : Nat} {l : List Nd} (hn : Ns w A c l) (hp : ∀ a, A = some a → ¬ P a.block) : Ns w' A c l :=
  ⟨hn.1, hn.2.1, hn.2.2.1, fun h0 => by
    obtain ⟨b, off, e, hlt, hc⟩ := hn.2.2.2 h0
    exact ⟨b, off, e, Nat.lt_of_lt_of_le hlt h.size, fun i hi => (hc i hi).below (h.block b hlt (hp _ e))⟩⟩
theorem Ky.cell {P : Nat → Prop} {w w' : World} (h : Ky P w w') {a : Addr} {u : Value} (hc : w.cell? a = some u) (hp : ¬ P a.block) : w'.cell? a = some u :=
  (World.cell?_of_block (w := w) (h.block a.block (World.block_lt_of_cell? w a hc) hp)).trans hc
theorem top_wf {l : List Nd} (h : looseB l = true) {p : Nat} (hp : p < l.length) {out : List Nd} (hi : InvT l out) (hl9 : l.length ≤ 1000000) : (topN (kT l (at_ l p)) out (at_ l p).lv).wf := by
  have hv := fit_lv (loose_fit h hp)
  have key : ∀ i, i < 4 → in64 (numK (kT l (at_ l p)) out i) := by
    intro i hi4
    have h1 := inv_outK h hp hi i (by omega)
    have h2 := inv_outK h hp hi (i + 1) (by omega)
    have hs := enc_spec _ _ _ (kT_wf h hp hi4) h1.1
    have := (kid_num (out := outK (kT l (at_ l p)) out (i + 1)) h2.1.1 hv.1 (kT_wf h hp hi4) hs.num).1
    exact kid_in64 this (by have := h2.len; omega)
  exact ⟨⟨by show _ ≤ (at_ l p).lv; omega, by show (at_ l p).lv ≤ _; omega⟩, key 0 (by omega), key 1 (by omega), key 2 (by omega), key 3 (by omega)⟩
theorem add_none {out : List Nd} {x : Nd} (h : fnd out x = 0) : add out x = (out ++ [x], out.length + 1) := by
  unfold add
  rw [if_pos h]
theorem add_some {out : List Nd} {x : Nd} {k : Nat} (h : fnd out x = k + 1) : add out x = (out, k + 1) := by
  unfold add
  rw [if_neg (by omega), h]
theorem kT_up {l : List Nd} {x : Nd} (hx : fitB l x = true) (h1 : x.lv ≠ 1) {i : Nat} (hi : i < 4) : ∃ r : Nat, r ≤ l.length ∧ kT l x i = den l r ∧ x.kid i = (r : Int) := by
  unfold kT
  rw [kidT_den h1]
  rcases kid_up h1 (fit_kid hx hi) with e | ⟨q, e, hq, _⟩
  · exact ⟨0, Nat.zero_le _, by rw [e]; rfl, by rw [e]; rfl⟩
  · exact ⟨q + 1, by omega, by rw [e, show ((q : Int) + 1).toNat = q + 1 by omega], by omega⟩
end Go.Proofs.Ytbcolelgbbmjkaa
