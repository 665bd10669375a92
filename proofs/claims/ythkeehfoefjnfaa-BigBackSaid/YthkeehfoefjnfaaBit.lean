/-
  limb.Bit: is one 1?
-/
import Derived.Test.YthkeehfoefjnfaaAdd
namespace Go.Proofs.Ythkeehfoefjnfaa
set_option linter.unusedVariables false
set_option linter.unusedSimpArgs false
open Go.RowKit Num

theorem val_testBit : ∀ {xs : List Nat} (_ : Dig xs) (k : Nat), (val xs).testBit k = (xs[k / 32]?.getD 0).testBit (k % 32)
  | [], _, k => by simp [val]
  | x :: r, hd, k => by
    have e : val (x :: r) = 2 ^ 32 * val r + x := by simp only [val]; omega
    rw [e, Nat.testBit_two_pow_mul_add _ hd.head]
    rcases Nat.lt_or_ge k 32 with h | h
    · rw [if_pos h, Nat.div_eq_of_lt h, Nat.mod_eq_of_lt h]
      rfl
    · rw [if_neg (by omega), val_testBit hd.tail]
      obtain ⟨j, rfl⟩ : ∃ j, k = j + 32 := ⟨k - 32, by omega⟩
      rw [Nat.add_sub_cancel, show (j + 32) / 32 = j / 32 + 1 from by omega, Nat.add_mod_right, List.getElem?_cons_succ]

theorem bit_eq {x p : Nat} (hx : x < 4294967296) : (bits .and .u32 ((x : Int) / 2 ^ p) 1 == 1) = x.testBit p := by
  have e : ((x : Int) / 2 ^ p) = ((x / 2 ^ p : Nat) : Int) := by simp
  have h1 : x / 2 ^ p < 4294967296 := Nat.lt_of_le_of_lt (Nat.div_le_self _ _) hx
  rw [e, show (1 : Int) = ((1 : Nat) : Int) from rfl, u32_and_nat _ _ h1 (by decide), nat_mask1, Nat.testBit_eq_decide_div_mod_eq]
  rcases Nat.mod_two_eq_zero_or_one (x / 2 ^ p) with h | h <;> rw [h] <;> rfl

set_option maxHeartbeats 800000 in
theorem bit_any (A : Option Addr) (c : Nat) (xs : List Nat) (i : Int) (w : World) (h : Us w A c xs) (hl : xs.length ≤ 1000000) (hi : i ≤ 9223372036854775807) :
    Calls Try.prog 24 #[.slice A xs.length c, .int .i64 i] w fun e w' => e = .returned (.bool (decide (0 ≤ i) && (val xs).testBit i.toNat)) ∧ w = w' := by
  by_cases h0 : 0 ≤ i
  · obtain ⟨k, rfl⟩ := Int.eq_ofNat_of_zero_le h0
    rw [Int.toNat_natCast, decide_eq_true h0, Bool.true_and, val_testBit h.1]
    obtain ⟨x, hx⟩ : ∃ x, x = xs[k / 32]?.getD 0 := ⟨_, rfl⟩
    rw [← hx]
    have hxl : x < 4294967296 := by rw [hx]; exact h.1.getD _
    obtain ⟨q, hq⟩ : ∃ q, q = k / 32 := ⟨_, rfl⟩
    obtain ⟨p, hp⟩ : ∃ p, p = k % 32 := ⟨_, rfl⟩
    rw [← hq] at hx
    rw [← hp]
    have hp1 : p < 32 := by omega
    have hq1 : q ≤ 288230376151711743 := by omega
    have eq1 : (k : Int) / 32 = (q : Int) := by omega
    have ep1 : (k : Int) % 32 = (p : Int) := by omega
    obtain ⟨n, hn⟩ : ∃ n, n = xs.length := ⟨_, rfl⟩
    rw [← hn] at hl ⊢
    have HH := Lib.hid h
    have HX := Lib.hid hx
    have HN := Lib.hid hn
    clear h hx hq hp hn
    go_enter Try.func24, Try.ntmps24
    go_wp2_with (go_at_call 59; refine (at_val HH.out HN.out.symm hl q HX.out).mono ?_; rintro e w' ⟨rfl, rfl⟩)
    go_ret
    refine ⟨?_, rfl⟩
    show Ending.returned (.bool _) = _
    rw [bit_eq hxl]
  · rw [decide_eq_false h0, Bool.false_and]
    clear h
    go_enter Try.func24, Try.ntmps24
    go_wp2
    go_ret
    exact ⟨rfl, rfl⟩

end Go.Proofs.Ythkeehfoefjnfaa
