/-
  LimbParts holds of every input.
-/
import Derived.Test.YthkeehfoefjnfaaAlive
namespace Go.Proofs.Ythkeehfoefjnfaa
set_option linter.unusedVariables false
set_option linter.unusedSimpArgs false
open Go.RowKit Num

/-- What Div answers, and what is left. -/
def dq (x m : Nat) : Nat := if m = 0 then 0 else x / m
def dr (x m : Nat) : Nat := if m = 0 then 0 else x % m
theorem dr_lt {x m : Nat} (hm : m < 4294967296) : dr x m < 4294967296 := by
  unfold dr
  split
  · decide
  · exact Nat.lt_trans (Nat.mod_lt _ (by omega)) hm
theorem dq_le (x m : Nat) : dq x m ≤ x := by
  unfold dq
  split
  · omega
  · exact Nat.div_le_self _ _
theorem div_d (A : Option Addr) (c : Nat) (xs : List Nat) (m : Nat) (w : World) (h : Us w A c xs) (hl : xs.length ≤ 1000000) (hmm : m < 4294967296) :
    Calls Try.prog 30 #[.slice A xs.length c, .int .u32 (m : Int)] w (RetD (dq (val xs) m) (dr (val xs) m) w) := div_any A c xs m w h hl hmm
theorem rdiv_d (A : Option Addr) (c : Nat) (xs : List Nat) (m : Nat) (w : World) (h : Us w A c xs) (hl : xs.length ≤ 1000000) (hmm : m < 4294967296) :
    Calls Try.prog 31 #[.slice A xs.length c, .int .u32 (m : Int)] w (RetD (dq (val xs) m) (dr (val xs) m) w) := by
  unfold dq dr
  rcases Nat.eq_zero_or_pos m with rfl | hm
  · exact rdiv_zero A c xs.length w
  · rw [if_neg (by omega), if_neg (by omega)]
    exact rdiv_yes A c xs m w h hl hm hmm
/-- A number that is less has no more limbs. -/
theorem len_of {rs : List Nat} (hc : Canon rs) {n : Nat} (hv : val rs = n) (k : Nat) (hk : n < 4294967296 ^ k) (h6 : k ≤ 1000000) : rs.length ≤ 1000000 := by
  have := len_le hc (hv ▸ hk)
  omega
theorem pow_60 {xs : List Nat} (hd : Dig xs) (hn : xs.length ≤ 60) : val xs < 4294967296 ^ 60 := Nat.lt_of_lt_of_le (val_lt hd) (Nat.pow_le_pow_right (by decide) hn)
theorem mul_61 {x m c : Nat} (hx : x < 4294967296 ^ 60) (hm : m < 4294967296) (hc : c < 4294967296) : x * m + c < 4294967296 ^ 61 := by
  have h1 : x * m ≤ x * 4294967295 := Nat.mul_le_mul_left _ (by omega)
  have h2 : (4294967296 : Nat) ^ 61 = 4294967296 ^ 60 * 4294967296 := Nat.pow_succ ..
  rw [h2]
  generalize (4294967296 : Nat) ^ 60 = P at *
  omega

set_option maxRecDepth 100000 in
set_option maxHeartbeats 3200000 in
theorem parts_any (A : Option Addr) (c : Nat) (xs : List Nat) (m cc : Nat) (w : World) (h : Us w A c xs) (hm : m < 4294967296) (hcc : cc < 4294967296) :
    Calls Try.prog 5 #[.slice A xs.length c, .int .u32 (m : Int), .int .u32 (cc : Int)] w fun e w' => e = .returned (.bool true) ∧ Below w.heap.size w w' := by
  have s0 := (St.start w).add h
  have hd := h.1
  have hcap := h.cap
  clear h
  go_enter Try.func5, Try.ntmps5
  by_cases hn : xs.length ≤ 60
  · have hx := pow_60 hd hn
    have hy := mul_61 hx hm hcc
    have hz := Nat.lt_of_le_of_lt (dq_le (val xs) m) hx
    go_wp2_with (first
      | (go_at_call 10; (refine (alive_any _).mono ?_; rintro e w1 ⟨rfl, b⟩; have s1 := s0.step b; clear b s0))
      | (go_at_call 30; (refine (div_d _ _ xs m _ (s1.get (by simp)) (by omega) hm).mono ?_; rintro e w2 ⟨A2, c2, r2, rfl, q, k2, v2, b⟩; have d2 := q.1; have s2 := s1.call b q; clear b q s1))
      | (go_at_call 31; (refine (rdiv_d _ _ xs m _ (s2.get (by simp)) (by omega) hm).mono ?_; rintro e w3 ⟨A3, c3, r3, rfl, q, k3, v3, b⟩; obtain rfl := uniq d2 q.1 k2 k3 (v2.trans v3.symm); have s3 := s2.call b q; clear b q s2 k3 v3))
      | (go_at_call 32; (refine (mul_any _ _ xs m cc _ (s3.get (by simp)) (by omega) hm hcc).mono ?_; rintro e w4 ⟨A4, c4, r4, rfl, q, k4, v4, b⟩; have d4 := q.1; have s4 := s3.call b q; clear b q s3))
      | (go_at_call 33; (refine (rmul_any _ _ xs m cc _ (s4.get (by simp)) (by omega) hm hcc).mono ?_; rintro e w5 ⟨A5, c5, r5, rfl, q, k5, v5, b⟩; obtain rfl := uniq d4 q.1 k4 k5 (v4.trans v5.symm); have s5 := s4.call b q; clear b q s4 k5 v5))
      | (go_at_call_of 13 (Value.slice A4 r4.length c4); (refine (same_any _ _ _ _ r4 r4 _ (s5.get (by simp)) (s5.get (by simp)) (len_of k4 v4 61 hy (by decide))).mono ?_; rintro e w6 ⟨rfl, b⟩; rw [decide_eq_true (show r4 = r4 from rfl)]; have s6 := s5.step b; clear b s5))
      | (go_at_call_of 13 (Value.slice A2 r2.length c2); (refine (same_any _ _ _ _ r2 r2 _ (s6.get (by simp)) (s6.get (by simp)) (len_of k2 v2 60 hz (by decide))).mono ?_; rintro e w7 ⟨rfl, b⟩; rw [decide_eq_true (show r2 = r2 from rfl)]; have s7 := s6.step b; clear b s6)))
    go_ret
    exact ⟨rfl, s7.1⟩
  · go_wp2_with (go_at_call 10; (refine (alive_any _).mono ?_; rintro e w1 ⟨rfl, b⟩; have s1 := s0.step b; clear b s0))
    go_ret
    exact ⟨rfl, s1.1⟩

end Go.Proofs.Ythkeehfoefjnfaa
