/-
  LimbShifts holds of every input.
-/
import Derived.Test.YthkeehfoefjnfaaParts
namespace Go.Proofs.Ythkeehfoefjnfaa
set_option linter.unusedVariables false
set_option linter.unusedSimpArgs false
open Go.RowKit Num

/-- What the shifts answer, whatever the number of places. -/
def shlN (x : Nat) (n : Int) : Nat := if 0 ≤ n ∧ n ≤ 10000 then x * 2 ^ n.toNat else 0
def shrN (x : Nat) (n : Int) : Nat := if 0 ≤ n ∧ n ≤ 10000 then x / 2 ^ n.toNat else 0
def bitZ (x : Nat) (i : Int) : Bool := decide (0 ≤ i) && x.testBit i.toNat
theorem shl_z (A : Option Addr) (c : Nat) (xs : List Nat) (n : Int) (w : World) (h : Us w A c xs) (hl : xs.length ≤ 100000) :
    Calls Try.prog 18 #[.slice A xs.length c, .int .i64 n] w (RetU (shlN (val xs) n) w) := by
  unfold shlN
  by_cases hn : 0 ≤ n ∧ n ≤ 10000
  · rw [if_pos hn]
    obtain ⟨k, rfl⟩ : ∃ k : Nat, n = (k : Int) := ⟨n.toNat, by omega⟩
    exact shl_yes A c xs k w h hl (by omega)
  · rw [if_neg hn]
    exact shl_no A c xs.length n w (by omega)
theorem rshl_z (A : Option Addr) (c : Nat) (xs : List Nat) (n : Int) (w : World) (h : Us w A c xs) (hl : xs.length ≤ 100000) :
    Calls Try.prog 19 #[.slice A xs.length c, .int .i64 n] w (RetU (shlN (val xs) n) w) := by
  unfold shlN
  by_cases hn : 0 ≤ n ∧ n ≤ 10000
  · rw [if_pos hn]
    obtain ⟨k, rfl⟩ : ∃ k : Nat, n = (k : Int) := ⟨n.toNat, by omega⟩
    exact rshl_yes A c xs k w h (by omega) (by omega)
  · rw [if_neg hn]
    exact rshl_no A c xs.length n w (by omega)
theorem shr_z (A : Option Addr) (c : Nat) (xs : List Nat) (n : Int) (w : World) (h : Us w A c xs) (hl : xs.length ≤ 100000) :
    Calls Try.prog 20 #[.slice A xs.length c, .int .i64 n] w (RetU (shrN (val xs) n) w) := by
  unfold shrN
  by_cases hn : 0 ≤ n ∧ n ≤ 10000
  · rw [if_pos hn]
    obtain ⟨k, rfl⟩ : ∃ k : Nat, n = (k : Int) := ⟨n.toNat, by omega⟩
    exact shr_any A c xs k w h (by omega) (by omega)
  · rw [if_neg hn]
    exact shr_no A c xs.length n w (by omega)
theorem rshr_z (A : Option Addr) (c : Nat) (xs : List Nat) (n : Int) (w : World) (h : Us w A c xs) (hl : xs.length ≤ 100000) :
    Calls Try.prog 21 #[.slice A xs.length c, .int .i64 n] w (RetU (shrN (val xs) n) w) := by
  unfold shrN
  by_cases hn : 0 ≤ n ∧ n ≤ 10000
  · rw [if_pos hn]
    obtain ⟨k, rfl⟩ : ∃ k : Nat, n = (k : Int) := ⟨n.toNat, by omega⟩
    exact rshr_any A c xs k w h (by omega) (by omega)
  · rw [if_neg hn]
    exact rshr_no A c xs n w h (by omega) (by omega)
theorem pow_32 (m : Nat) : (4294967296 : Nat) ^ m = 2 ^ (32 * m) := by
  rw [Nat.pow_mul]
theorem shlN_lt {x : Nat} (n : Int) (hx : x < 4294967296 ^ 60) : shlN x n < 4294967296 ^ 373 := by
  obtain ⟨M, hM⟩ : ∃ M, M = 313 := ⟨_, rfl⟩
  rw [show 373 = 60 + M by omega, Nat.pow_add, pow_32 M]
  generalize (4294967296 : Nat) ^ 60 = P at *
  unfold shlN
  split
  · rename_i h
    have h4 : 2 ^ n.toNat ≤ 2 ^ (32 * M) := Nat.pow_le_pow_right (by decide) (by omega)
    exact Nat.lt_of_le_of_lt (Nat.mul_le_mul_left _ h4) (Nat.mul_lt_mul_of_pos_right hx (Nat.two_pow_pos _))
  · exact Nat.mul_pos (by omega) (Nat.two_pow_pos _)
theorem shrN_lt {x : Nat} (n : Int) (hx : x < 4294967296 ^ 60) : shrN x n < 4294967296 ^ 60 := by
  unfold shrN
  split
  · exact Nat.lt_of_le_of_lt (Nat.div_le_self _ _) hx
  · exact Nat.pow_pos (by decide)

set_option maxRecDepth 100000 in
set_option maxHeartbeats 3200000 in
theorem shifts_any (A : Option Addr) (c : Nat) (xs : List Nat) (n i : Int) (w : World) (h : Us w A c xs) (hi : i ≤ 9223372036854775807) :
    Calls Try.prog 4 #[.slice A xs.length c, .int .i64 n, .int .i64 i] w fun e w' => e = .returned (.bool true) ∧ Below w.heap.size w w' := by
  have s0 := (St.start w).add h
  have hd := h.1
  have hcap := h.cap
  clear h
  go_enter Try.func4, Try.ntmps4
  by_cases hn : xs.length ≤ 60
  · have hx := pow_60 hd hn
    have hy := shlN_lt n hx
    have hz := shrN_lt n hx
    have HI := Lib.hid hi
    clear hi
    go_wp2_with (first
      | (go_at_call 10; (refine (alive_any _).mono ?_; rintro e w1 ⟨rfl, b⟩; have s1 := s0.step b; clear b s0))
      | (go_at_call 18; (refine (shl_z _ _ xs n _ (s1.get (by simp)) (by omega)).mono ?_; rintro e w2 ⟨A2, c2, r2, rfl, q, k2, v2, b⟩; have d2 := q.1; have s2 := s1.call b q; clear b q s1))
      | (go_at_call 19; (refine (rshl_z _ _ xs n _ (s2.get (by simp)) (by omega)).mono ?_; rintro e w3 ⟨A3, c3, r3, rfl, q, k3, v3, b⟩; obtain rfl := uniq d2 q.1 k2 k3 (v2.trans v3.symm); have s3 := s2.call b q; clear b q s2 k3 v3))
      | (go_at_call_of 13 (Value.slice A2 r2.length c2); (refine (same_any _ _ _ _ r2 r2 _ (s3.get (by simp)) (s3.get (by simp)) (len_of k2 v2 373 hy (by decide))).mono ?_; rintro e w4 ⟨rfl, b⟩; rw [decide_eq_true (show r2 = r2 from rfl)]; have s4 := s3.step b; clear b s3))
      | (go_at_call 20; (refine (shr_z _ _ xs n _ (s4.get (by simp)) (by omega)).mono ?_; rintro e w5 ⟨A5, c5, r5, rfl, q, k5, v5, b⟩; have d5 := q.1; have s5 := s4.call b q; clear b q s4))
      | (go_at_call 21; (refine (rshr_z _ _ xs n _ (s5.get (by simp)) (by omega)).mono ?_; rintro e w6 ⟨A6, c6, r6, rfl, q, k6, v6, b⟩; obtain rfl := uniq d5 q.1 k5 k6 (v5.trans v6.symm); have s6 := s5.call b q; clear b q s5 k6 v6))
      | (go_at_call_of 13 (Value.slice A5 r5.length c5); (refine (same_any _ _ _ _ r5 r5 _ (s6.get (by simp)) (s6.get (by simp)) (len_of k5 v5 60 hz (by decide))).mono ?_; rintro e w7 ⟨rfl, b⟩; rw [decide_eq_true (show r5 = r5 from rfl)]; have s7 := s6.step b; clear b s6))
      | (go_at_call 22; (refine (len_any _ _ xs _ (s7.get (by simp)) (by omega)).mono ?_; rintro e w8 ⟨rfl, b⟩; have s8 := s7.step b; clear b s7))
      | (go_at_call 23; (refine (rlen_any _ _ xs _ (s8.get (by simp)) (by omega)).mono ?_; rintro e w9 ⟨rfl, b⟩; have s9 := s8.step b; clear b s8))
      | (go_at_call 24; (refine (bit_any _ _ xs i _ (s9.get (by simp)) (by omega) HI.out).mono ?_; rintro e w' ⟨rfl, rfl⟩; rw [show (decide (0 ≤ i) && (val xs).testBit i.toNat) = bitZ (val xs) i from rfl]))
      | (go_at_call 25; (refine (rbit_any _ _ xs i _ (s9.get (by simp)) (by omega)).mono ?_; rintro e w10 ⟨rfl, b⟩; rw [show (decide (0 ≤ i) && (val xs).testBit i.toNat) = bitZ (val xs) i from rfl]; have s10 := s9.step b; clear b s9))
      | (go_at_call 26; (refine (right_any _ _ xs _ (s10.get (by simp)) (by omega)).mono ?_; rintro e w' ⟨rfl, rfl⟩))
      | (go_at_call 27; (refine (rright_any _ _ xs _ (s10.get (by simp)) (by omega)).mono ?_; rintro e w' ⟨rfl, rfl⟩))
      | (go_at_call 28; (refine (norm_any _ _ xs _ (s10.get (by simp)) (by omega)).mono ?_; rintro e w11 ⟨A11, c11, r11, rfl, q, k11, v11, b⟩; have d11 := q.1; have s11 := s10.call b q; clear b q s10))
      | (go_at_call 29; (refine (rnorm_any _ _ xs _ (s11.get (by simp)) (by omega)).mono ?_; rintro e w12 ⟨A12, c12, r12, rfl, q, k12, v12, b⟩; obtain rfl := uniq d11 q.1 k11 k12 (v11.trans v12.symm); have s12 := s11.call b q; clear b q s11 k12 v12))
      | (go_at_call_of 13 (Value.slice A11 r11.length c11); (refine (same_any _ _ _ _ r11 r11 _ (s12.get (by simp)) (s12.get (by simp)) (len_of k11 v11 60 hx (by decide))).mono ?_; rintro e w13 ⟨rfl, b⟩; rw [decide_eq_true (show r11 = r11 from rfl)]; have s13 := s12.step b; clear b s12)))
    go_ret
    exact ⟨rfl, s13.1⟩
  · go_wp2_with (go_at_call 10; (refine (alive_any _).mono ?_; rintro e w1 ⟨rfl, b⟩; have s1 := s0.step b; clear b s0))
    go_ret
    exact ⟨rfl, s1.1⟩

end Go.Proofs.Ythkeehfoefjnfaa
