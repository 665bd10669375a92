/-
  Small callees: at, shift, the reference's at, Right, Same.
-/
import Derived.Test.YthkeehfoefjnfaaMem
import Derived.Deep.QuietTactic
import Derived.BigQuiet
namespace Go.Proofs.Ythkeehfoefjnfaa
set_option linter.unusedVariables false
set_option linter.unusedSimpArgs false
open Go.RowKit Num

set_option maxHeartbeats 400000 in
theorem at_any (A : Option Addr) (c : Nat) (xs : List Nat) (i : Int) (w : World) (h : Us w A c xs) (hl : xs.length ≤ 1000000) (h0 : 0 ≤ i) :
    Calls Try.prog 59 #[.slice A xs.length c, .int .i64 i] w fun e w' => e = .returned (.int .u32 (xs[i.toNat]?.getD 0 : Nat)) ∧ w = w' := by
  obtain ⟨k, rfl⟩ := Int.eq_ofNat_of_zero_le h0
  rw [Int.toNat_natCast]
  obtain ⟨x, hx⟩ : ∃ x, x = xs[k]?.getD 0 := ⟨_, rfl⟩
  by_cases hlt : k < xs.length
  · obtain ⟨b, off, rfl, hb, hc⟩ := h.at_ (by omega)
    have hck := hc k hlt
    rw [← hx] at hck ⊢
    clear hc h hx
    go_enter Try.func59, Try.ntmps59
    go_wp2
    go_ret
    exact ⟨rfl, rfl⟩
  · rw [List.getElem?_eq_none (by omega)] at hx ⊢
    clear h hx
    go_enter Try.func59, Try.ntmps59
    go_wp2
    go_ret
    exact ⟨rfl, rfl⟩

/-- May numbers be shifted by n? -/
def shiftB (n : Int) : Bool := decide (0 ≤ n ∧ n ≤ 10000)
set_option maxHeartbeats 400000 in
theorem shift_any (n : Int) (w : World) :
    Calls Try.prog 68 #[.int .i64 n] w fun e w' => e = .returned (.bool (shiftB n)) ∧ w = w' := by
  by_cases h0 : 0 ≤ n
  · by_cases h1 : n ≤ 10000
    · have e : shiftB n = true := by simp [shiftB, h0, h1]
      rw [e]; clear e
      go_enter Try.func68, Try.ntmps68
      go_wp2
      go_ret
      exact ⟨rfl, rfl⟩
    · have e : shiftB n = false := by simp [shiftB, h1]
      rw [e]; clear e
      go_enter Try.func68, Try.ntmps68
      go_wp2
      go_ret
      exact ⟨rfl, rfl⟩
  · have e : shiftB n = false := by simp [shiftB, h0]
    rw [e]; clear e
    go_enter Try.func68, Try.ntmps68
    go_wp2
    go_ret
    exact ⟨rfl, rfl⟩

set_option maxHeartbeats 400000 in
/-- The reference's at: a bit; none behind all, nor below 0. -/
theorem rat_any (A : Option Addr) (c : Nat) (bs : List Bool) (i : Int) (w : World) (h : Bl w A c bs) (hl : bs.length ≤ 100000000) :
    Calls Try.prog 62 #[.slice A bs.length c, .int .i64 i] w fun e w' => e = .returned (.bool (decide (0 ≤ i) && bs[i.toNat]?.getD false)) ∧ w = w' := by
  by_cases h0 : 0 ≤ i
  · obtain ⟨k, rfl⟩ := Int.eq_ofNat_of_zero_le h0
    rw [Int.toNat_natCast, decide_eq_true h0, Bool.true_and]
    obtain ⟨x, hx⟩ : ∃ x, x = bs[k]?.getD false := ⟨_, rfl⟩
    by_cases hlt : k < bs.length
    · obtain ⟨b, off, rfl, hb, hc⟩ := h.at_ (by omega)
      have hck := hc k hlt
      rw [← hx] at hck ⊢
      clear hc h hx
      go_enter Try.func62, Try.ntmps62
      go_wp2
      go_ret
      exact ⟨rfl, rfl⟩
    · rw [List.getElem?_eq_none (by omega)] at hx ⊢
      clear h hx
      go_enter Try.func62, Try.ntmps62
      go_wp2
      go_ret
      exact ⟨rfl, rfl⟩
  · rw [decide_eq_false h0, Bool.false_and]
    clear h
    go_enter Try.func62, Try.ntmps62
    go_wp2
    go_ret
    exact ⟨rfl, rfl⟩

/-- In one way? -/
def rightB (xs : List Nat) : Bool := xs.length == 0 || xs[xs.length - 1]?.getD 0 != 0
set_option maxHeartbeats 400000 in
theorem right_any (A : Option Addr) (c : Nat) (xs : List Nat) (w : World) (h : Us w A c xs) (hl : xs.length ≤ 1000000) :
    Calls Try.prog 26 #[.slice A xs.length c] w fun e w' => e = .returned (.bool (rightB xs)) ∧ w = w' := by
  obtain ⟨x, hx⟩ : ∃ x, x = xs[xs.length - 1]?.getD 0 := ⟨_, rfl⟩
  unfold rightB
  by_cases hlt : 0 < xs.length
  · obtain ⟨b, off, rfl, hb, hc⟩ := h.at_ hlt
    have hck := hc (xs.length - 1) (by omega)
    have e0 : (xs.length == 0) = false := by rw [beq_eq_false_iff_ne]; omega
    rw [← hx] at hck ⊢
    rw [e0, Bool.false_or]
    generalize xs.length = n at *
    obtain ⟨m, rfl⟩ : ∃ m, n = m + 1 := ⟨n - 1, by omega⟩
    rw [Nat.add_sub_cancel] at hck
    clear hc h hx e0
    go_enter Try.func26, Try.ntmps26
    by_cases hx0 : x = 0
    · subst hx0
      go_wp2
      go_ret
      exact ⟨rfl, rfl⟩
    · have hb1 : ((x : Int) == 0) = false := by rw [beq_eq_false_iff_ne]; omega
      have hb2 : ((x : Int) != 0) = true := by rw [bne_iff_ne]; omega
      have e1 : (x != 0) = true := by rw [bne_iff_ne]; omega
      rw [e1]
      clear e1 hx0
      go_wp2
      go_ret
      exact ⟨rfl, rfl⟩
  · have e0 : xs.length = 0 := by omega
    rw [e0]
    clear h hx hl hlt e0
    go_enter Try.func26, Try.ntmps26
    go_wp2
    go_ret
    exact ⟨rfl, rfl⟩

set_option maxHeartbeats 400000 in
theorem rright_any (A : Option Addr) (c : Nat) (xs : List Nat) (w : World) (h : Us w A c xs) (hl : xs.length ≤ 1000000) :
    Calls Try.prog 27 #[.slice A xs.length c] w fun e w' => e = .returned (.bool (rightB xs)) ∧ w = w' := by
  obtain ⟨x, hx⟩ : ∃ x, x = xs[xs.length - 1]?.getD 0 := ⟨_, rfl⟩
  unfold rightB
  by_cases hlt : 0 < xs.length
  · obtain ⟨b, off, rfl, hb, hc⟩ := h.at_ hlt
    have hck := hc (xs.length - 1) (by omega)
    have e0 : (xs.length == 0) = false := by rw [beq_eq_false_iff_ne]; omega
    rw [← hx] at hck ⊢
    rw [e0, Bool.false_or]
    generalize xs.length = n at *
    obtain ⟨m, rfl⟩ : ∃ m, n = m + 1 := ⟨n - 1, by omega⟩
    rw [Nat.add_sub_cancel] at hck
    clear hc h hx e0
    go_enter Try.func27, Try.ntmps27
    by_cases hx0 : x = 0
    · subst hx0
      go_wp2
      go_ret
      exact ⟨rfl, rfl⟩
    · have hb1 : ((x : Int) == 0) = false := by rw [beq_eq_false_iff_ne]; omega
      have hb2 : ((x : Int) != 0) = true := by rw [bne_iff_ne]; omega
      have e1 : (x != 0) = true := by rw [bne_iff_ne]; omega
      rw [e1]
      clear e1 hx0
      go_wp2
      go_ret
      exact ⟨rfl, rfl⟩
  · have e0 : xs.length = 0 := by omega
    rw [e0]
    clear h hx hl hlt e0
    go_enter Try.func27, Try.ntmps27
    go_wp2
    go_ret
    exact ⟨rfl, rfl⟩

end Go.Proofs.Ythkeehfoefjnfaa
