/-
  canon: the reference's Shrink.
-/
import Derived.Test.YtbcolelgbbmjkaaNcRA

namespace Go.Proofs.Ytbcolelgbbmjkaa
set_option linter.unusedVariables false
set_option linter.unusedSimpArgs false
open Go.RowKit Nds
/-- What Shrink leaves. -/
def RetS (l : List Nd) (k : Nat) (w : World) (e : Ending) (w' : World) : Prop :=
  ∃ v cur j, e = .returned (.tuple #[v, .int .i64 ((j : Nat) : Int)]) ∧ OwnN w' w.heap.size v cur ∧ looseB cur = true ∧ j ≤ cur.length ∧ den cur j = shrT (den l k) ∧ cur.length ≤ l.length + 1329 ∧ Below w.heap.size w w'
def lenOf : Value → Nat | .slice _ n _ => n | _ => 0
theorem OwnN.len {w : World} {base : Nat} {v : Value} {l : List Nd} (h : OwnN w base v l) : lenOf v = l.length := by
  obtain ⟨A, c, rfl, _⟩ := h.shape
  rfl
theorem OwnN.stays {w w' : World} {base : Nat} {v : Value} {l : List Nd} (h : OwnN w base v l) (hb : Below w.heap.size w w') : OwnN w' base v l :=
  h.gbr (row := none) ⟨hb.os, hb.tape, hb.output, hb.size, fun i hi _ => hb.block i hi⟩ (by
    cases hv : v.ownBlock
    · exact .inl rfl
    · exact .inr (by simp))
/-- Where the reference's Shrink stands. -/
def SS (l : List Nd) (t : Tr) (cur : List Nd) (p : Nat) : Prop := looseB cur = true ∧ p < cur.length ∧ den cur (p + 1) ≠ .e ∧ shrT (den cur (p + 1)) = t ∧ (cur.length : Int) + (at_ cur p).lv ≤ l.length + 1329
theorem SS.start {l : List Nd} (hl : looseB l = true) {p : Nat} (hp : p < l.length) (hne : den l (p + 1) ≠ .e) : SS l (shrT (den l (p + 1))) l p := by
  have := fit_lv (loose_fit hl hp)
  exact ⟨hl, hp, hne, rfl, by omega⟩
theorem SS.next {l cur : List Nd} {t : Tr} {p : Nat} (h : SS l t cur p) (hh : holT (den cur (p + 1)) = true) : SS l t (cur ++ [innN cur (at_ cur p)]) cur.length := by
  obtain ⟨h1, h2, h3, h4, h5⟩ := h
  obtain ⟨s1, s2, s3, s4⟩ := shr_list h1 h2 hh
  refine ⟨s1, by simp, by rw [s2]; exact s3, by rw [s2, s4]; exact h4, ?_⟩
  rw [at_last]
  show (((cur ++ [_]).length : Nat) : Int) + ((at_ cur p).lv - 1) ≤ _
  rw [List.length_append]
  show ((cur.length + 1 : Nat) : Int) + _ ≤ _
  omega
theorem SS.len {l cur : List Nd} {t : Tr} {p : Nat} (h : SS l t cur p) : cur.length ≤ l.length + 1328 := by
  obtain ⟨h1, h2, h3, h4, h5⟩ := h
  have := fit_lv (loose_fit h1 h2)
  omega
end Go.Proofs.Ytbcolelgbbmjkaa
