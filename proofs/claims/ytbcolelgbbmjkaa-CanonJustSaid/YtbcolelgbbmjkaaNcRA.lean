/-
  canon: the reference's Inner, find, Same.
-/
import Derived.Test.YtbcolelgbbmjkaaNcMem

namespace Go.Proofs.Ytbcolelgbbmjkaa
set_option linter.unusedVariables false
set_option linter.unusedSimpArgs false
open Go.RowKit Nds
set_option maxRecDepth 100000 in
set_option maxHeartbeats 1600000 in
theorem rsame_any (A B : Option Addr) (c d n p : Nat) (l m : List Nd) (w : World) (h : Ns w A c l) (k : Ns w B d m) (hn : l.length = n) (hp : m.length = p) :
    Calls Try.prog 8 #[.agg #[.slice A n c], .agg #[.slice B p d]] w fun e w' => e = .returned (.bool (decide (l = m))) ∧ Below w.heap.size w w' := by
  have hb := ((Below.refl w.heap.size w).alloc (Nat.le_refl _) (.cells #[.slice A n c] 25)).alloc (by simp) (.cells #[.slice B p d] 25)
  have HB := Lib.hid hb
  have HL := Lib.hid (h.below hb)
  have HM := Lib.hid (k.below hb)
  have HN := Lib.hid hn
  have HP := Lib.hid hp
  obtain ⟨R, hR⟩ : ∃ R, R = decide (l = m) := ⟨_, rfl⟩
  rw [← hR]
  have HR := Lib.hid hR
  clear hb h k hn hp hR
  go_enter Try.func8, Try.ntmps8
  go_wp2_with (go_at_call 9; refine (rnodes_any _ _ _ _ _ _ l m _ HL.out HM.out HN.out HP.out).mono ?_; rintro e w1 ⟨rfl, q, rfl⟩; rw [← HR.out])
  go_ret
  exact ⟨rfl, below_drewN' HB.out _⟩
theorem rloose_b (A : Option Addr) (c n : Nat) (l : List Nd) (w : World) (h : Ns w A c l) (hn : l.length = n) :
    Calls Try.prog 11 #[.slice A n c] w fun e w' => e = .returned (.bool (looseB l)) ∧ Below w.heap.size w w' :=
  (rloose_at A c n l w h hn).mono fun _ _ ⟨he, hw⟩ => ⟨he, drewN_below hw⟩
/-- May it be asked for? -/
def okB (l : List Nd) (k : Int) : Bool := looseB l && decide (0 ≤ k ∧ k ≤ (l.length : Int))
def ofQ (l : List Nd) (k : Int) : List Nd := if okB l k = true then OfL l k.toNat else []
def ofE (l : List Nd) (k : Int) : Int := if okB l k = true then 0 else 1
/-- What Of leaves. -/
def RetO (l : List Nd) (k : Int) (w : World) (e : Ending) (w' : World) : Prop :=
  ∃ A c, e = .returned (.tuple #[.agg #[.slice A (ofQ l k).length c], .int .i64 (ofE l k)]) ∧ Ns w' A c (ofQ l k) ∧ (A = none → c = 0) ∧ Below w.heap.size w w'
theorem ofQ_no {l : List Nd} {k : Int} (h : okB l k = false) : ofQ l k = [] ∧ ofE l k = 1 := by
  unfold ofQ ofE
  rw [if_neg (by rw [h]; simp), if_neg (by rw [h]; simp)]
  exact ⟨rfl, rfl⟩
theorem ofQ_yes {l : List Nd} {n : Nat} (hl : looseB l = true) (hn : n ≤ l.length) : ofQ l (n : Int) = OfL l n ∧ ofE l (n : Int) = 0 := by
  have h : okB l (n : Int) = true := by
    unfold okB
    rw [hl, decide_eq_true (by omega)]
    rfl
  unfold ofQ ofE
  rw [if_pos h, if_pos h, Int.toNat_natCast]
  exact ⟨rfl, rfl⟩
theorem okB_no {l : List Nd} {k : Int} (h : looseB l = false ∨ k < 0 ∨ (l.length : Int) < k) : okB l k = false := by
  unfold okB
  rcases h with h | h
  · rw [h]
    rfl
  · rw [decide_eq_false (by omega), Bool.and_false]
theorem ns_nil (w : World) : Ns w none 0 [] := ⟨by simp, Nat.le_refl _, by simp [maxLen], fun h => absurd h (Nat.lt_irrefl 0)⟩
end Go.Proofs.Ytbcolelgbbmjkaa
