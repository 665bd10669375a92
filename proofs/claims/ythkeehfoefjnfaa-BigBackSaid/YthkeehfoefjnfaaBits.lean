/-
  math/bits' Add32, Sub32, Div32, Len32, and cmp.Compare at int and uint32.
-/
import Derived.Test.YthkeehfoefjnfaaMem
import Derived.Deep.QuietTactic
import Derived.BigQuiet
namespace Go.Proofs.Ythkeehfoefjnfaa
set_option linter.unusedVariables false
set_option linter.unusedSimpArgs false
open Go.RowKit Num

def addDig (x y c : Nat) : Nat := (x + y + c) % 4294967296
def addCar (x y c : Nat) : Nat := (x + y + c) / 4294967296
theorem addDig_lt (x y c : Nat) : addDig x y c < 4294967296 := Nat.mod_lt _ (by decide)
theorem addCar_le {x y c : Nat} (hx : x < 4294967296) (hy : y < 4294967296) (hc : c ≤ 1) : addCar x y c ≤ 1 := by unfold addCar; omega
theorem add_eq (x y c : Nat) : addDig x y c + 4294967296 * addCar x y c = x + y + c := by unfold addDig addCar; omega
set_option maxHeartbeats 400000 in
theorem add32_any (x y c : Nat) (w : World) (hx : x < 4294967296) (hy : y < 4294967296) (hc : c ≤ 1) :
    Calls Try.prog 64 #[.int .u32 x, .int .u32 y, .int .u32 c] w fun e w' => e = .returned (.tuple #[.int .u32 (addDig x y c : Nat), .int .u32 (addCar x y c : Nat)]) ∧ w = w' := by
  go_enter Try.func64, Try.ntmps64
  go_wp2
  go_ret2
  exact ⟨rfl, rfl⟩

def subDig (x y c : Nat) : Nat := (x + 8589934592 - y - c) % 4294967296
def subBor (x y c : Nat) : Nat := if x < y + c then 1 else 0
theorem subDig_lt (x y c : Nat) : subDig x y c < 4294967296 := Nat.mod_lt _ (by decide)
theorem subBor_le (x y c : Nat) : subBor x y c ≤ 1 := by unfold subBor; split <;> omega
theorem sub_eq {x y c : Nat} (hx : x < 4294967296) (hy : y < 4294967296) (hc : c ≤ 1) : subDig x y c + y + c = x + 4294967296 * subBor x y c := by
  unfold subDig subBor; split <;> omega
theorem bit31 {n : Nat} (h : n < 4294967296) : n / 2147483648 = (n.testBit 31).toNat := by
  rw [Nat.testBit_eq_decide_div_mod_eq]
  by_cases hb : n < 2147483648
  · have : n / 2 ^ 31 % 2 = 0 := by omega
    simp [this]; omega
  · have : n / 2 ^ 31 % 2 = 1 := by omega
    simp [this]; omega
theorem bit31_iff {n : Nat} (h : n < 4294967296) : n.testBit 31 = decide (2147483648 ≤ n) := by
  rw [Nat.testBit_eq_decide_div_mod_eq]
  by_cases hb : n < 2147483648
  · have : n / 2 ^ 31 % 2 = 0 := by omega
    rw [this]; simp; omega
  · have : n / 2 ^ 31 % 2 = 1 := by omega
    rw [this]; simp; omega
theorem borrow_nat {x y c : Nat} (hx : x < 4294967296) (hy : y < 4294967296) (hc : c ≤ 1) :
    (((4294967295 ^^^ x) &&& y) ||| ((4294967295 ^^^ (x ^^^ y)) &&& subDig x y c)) / 2147483648 = subBor x y c := by
  have p : (4294967296 : Nat) = 2 ^ 32 := by decide
  have hm : (4294967295 : Nat) < 2 ^ 32 := by decide
  have hx' := hx
  have hy' := hy
  have hd := subDig_lt x y c
  rw [p] at hx' hy'
  have l1 : ((4294967295 ^^^ x) &&& y) < 2 ^ 32 := Nat.and_lt_two_pow _ hy'
  have l2 : ((4294967295 ^^^ (x ^^^ y)) &&& subDig x y c) < 2 ^ 32 := Nat.and_lt_two_pow _ (by rw [← p]; exact hd)
  have l3 := Nat.or_lt_two_pow l1 l2
  rw [← p] at l3
  rw [bit31 l3]
  simp only [Nat.testBit_or, Nat.testBit_and, Nat.testBit_xor]
  rw [bit31_iff hx, bit31_iff hy, bit31_iff hd, show Nat.testBit 4294967295 31 = true from by decide]
  unfold subDig subBor at *
  by_cases hxb : 2147483648 ≤ x <;> by_cases hyb : 2147483648 ≤ y <;> by_cases hlt : x < y + c <;>
    by_cases hdb : 2147483648 ≤ (x + 8589934592 - y - c) % 4294967296 <;> simp [hxb, hyb, hlt, hdb] <;> omega
theorem borrow_int {x y c : Nat} (hx : x < 4294967296) (hy : y < 4294967296) (hc : c ≤ 1) :
    bits .or .u32 (bits .and .u32 (bits .xor .u32 IntKind.u32.max (x : Int)) (y : Int))
      (bits .and .u32 (bits .xor .u32 IntKind.u32.max (bits .xor .u32 (x : Int) (y : Int))) (((x : Int) - y - c) % 4294967296)) / 2147483648 = ((subBor x y c : Nat) : Int) := by
  have p : (4294967296 : Nat) = 2 ^ 32 := by decide
  have e : (((x : Int) - y - c) % 4294967296) = ((subDig x y c : Nat) : Int) := by unfold subDig; omega
  have m : IntKind.u32.max = ((4294967295 : Nat) : Int) := rfl
  have hx' := hx
  have hy' := hy
  have hd := subDig_lt x y c
  rw [p] at hx' hy'
  have x1 : (4294967295 ^^^ x) < 4294967296 := by rw [p]; exact Nat.xor_lt_two_pow (by decide) hx'
  have x2 : (x ^^^ y) < 4294967296 := by rw [p]; exact Nat.xor_lt_two_pow hx' hy'
  have x2' := x2
  rw [p] at x2'
  have x3 : (4294967295 ^^^ (x ^^^ y)) < 4294967296 := by rw [p]; exact Nat.xor_lt_two_pow (by decide) x2'
  have l1 : ((4294967295 ^^^ x) &&& y) < 4294967296 := by rw [p]; exact Nat.and_lt_two_pow _ hy'
  have l2 : ((4294967295 ^^^ (x ^^^ y)) &&& subDig x y c) < 4294967296 := by rw [p]; exact Nat.and_lt_two_pow _ (by rw [← p]; exact hd)
  rw [e, m, u32_xor_nat _ _ (by decide) hx, u32_xor_nat _ _ hx hy, u32_xor_nat _ _ (by decide) x2, u32_and_nat _ _ x1 hy, u32_and_nat _ _ x3 hd, u32_or_nat _ _ l1 l2, ← borrow_nat hx hy hc]
  omega
set_option maxHeartbeats 400000 in
theorem sub32_any (x y c : Nat) (w : World) (hx : x < 4294967296) (hy : y < 4294967296) (hc : c ≤ 1) :
    Calls Try.prog 58 #[.int .u32 x, .int .u32 y, .int .u32 c] w fun e w' => e = .returned (.tuple #[.int .u32 (subDig x y c : Nat), .int .u32 (subBor x y c : Nat)]) ∧ w = w' := by
  have e1 : (((x : Int) - y - c) % 4294967296) = ((subDig x y c : Nat) : Int) := by unfold subDig; omega
  have e2 := borrow_int hx hy hc
  have E1 := Lib.hid e1
  have E2 := Lib.hid e2
  clear e1 e2
  go_enter Try.func58, Try.ntmps58
  go_wp2
  go_ret2
  refine ⟨?_, rfl⟩
  show Ending.returned (.tuple #[.int .u32 _, .int .u32 _]) = _
  rw [E2.out, E1.out]

def divQ (h l m : Nat) : Nat := (4294967296 * h + l) / m
def divR (h l m : Nat) : Nat := (4294967296 * h + l) % m
theorem divQ_lt {h l m : Nat} (hm : h < m) (hl : l < 4294967296) : divQ h l m < 4294967296 := by
  unfold divQ
  rw [Nat.div_lt_iff_lt_mul (by omega)]
  have : 4294967296 * (h + 1) ≤ 4294967296 * m := Nat.mul_le_mul_left _ hm
  omega
theorem divR_lt {h l m : Nat} (hm : h < m) : divR h l m < m := Nat.mod_lt _ (by omega)
theorem div_eq (h l m : Nat) : divQ h l m * m + divR h l m = 4294967296 * h + l := by
  unfold divQ divR
  rw [Nat.mul_comm]
  exact Nat.div_add_mod _ _
theorem join64 {h l : Nat} (hh : h < 4294967296) (hl : l < 4294967296) : bits .or .u64 ((h : Int) * 4294967296) (l : Int) = ((4294967296 * h + l : Nat) : Int) := by
  have e : ((h : Int) * 4294967296) = ((4294967296 * h : Nat) : Int) := by omega
  rw [e, u64_or_nat _ _ (by omega) (by omega), nat_join 32 _ _ (by omega) (by omega)]
theorem wrapq (q : Nat) (h : q < 4294967296) : IntKind.u64.wrap (q : Int) % 4294967296 = (q : Int) := by
  simp only [IntKind.wrap, IntKind.bits, IntKind.signed]
  simp
  omega
set_option maxHeartbeats 800000 in
theorem div32_any (h l m : Nat) (w : World) (hm : h < m) (hl : l < 4294967296) (hmm : m < 4294967296) :
    Calls Try.prog 70 #[.int .u32 h, .int .u32 l, .int .u32 m] w fun e w' => e = .returned (.tuple #[.int .u32 (divQ h l m : Nat), .int .u32 (divR h l m : Nat)]) ∧ ∃ n, w' = w.drewN n := by
  have e := join64 (h := h) (l := l) (by omega) hl
  have q1 := divQ_lt hm hl
  have q2 := divR_lt (l := l) hm
  have m0 : ((m : Int) != 0) = true := by rw [bne_iff_ne]; omega
  obtain ⟨z, hz⟩ : ∃ z, z = 4294967296 * h + l := ⟨_, rfl⟩
  have z1 : z < 18446744073709551616 := by omega
  have z2 : (1 : Int) ≤ (m : Int) := by omega
  have key : z / m < 4294967296 → IntKind.u64.wrap ((z : Int) / (m : Int)) % 4294967296 = ((z / m : Nat) : Int) := fun q => by
    rw [← Int.natCast_ediv]
    exact wrapq _ q
  unfold divQ divR at *
  rw [← hz] at e q1 q2 ⊢
  have KEY := Lib.hid (key q1)
  clear hz key
  go_enter Try.func70, Try.ntmps70
  go_wp2
  go_quiet (fail)
  go_wp2
  go_ret2
  refine ⟨?_, _, rfl⟩
  show Ending.returned (.tuple #[.int .u32 _, .int .u32 _]) = _
  rw [KEY.out]
  rfl

def cmpZ (x y : Int) : Int := if x < y then -1 else if x = y then 0 else 1
set_option maxHeartbeats 400000 in
theorem cmpInt_any (x y : Int) (w : World) :
    Calls Try.prog 65 #[.int .i64 x, .int .i64 y] w fun e w' => e = .returned (.int .i64 (cmpZ x y)) ∧ w = w' := by
  unfold cmpZ
  rcases Int.lt_trichotomy x y with h | h | h
  · rw [if_pos h]
    go_enter Try.func65, Try.ntmps65
    go_wp2
    go_ret
    exact ⟨rfl, rfl⟩
  · subst h
    rw [if_neg (by omega), if_pos rfl]
    go_enter Try.func65, Try.ntmps65
    go_wp2
    go_ret
    exact ⟨rfl, rfl⟩
  · rw [if_neg (by omega), if_neg (by omega)]
    go_enter Try.func65, Try.ntmps65
    go_wp2
    go_ret
    exact ⟨rfl, rfl⟩
set_option maxHeartbeats 400000 in
theorem cmpU32_any (x y : Nat) (w : World) :
    Calls Try.prog 67 #[.int .u32 x, .int .u32 y] w fun e w' => e = .returned (.int .i64 (cmpN x y)) ∧ w = w' := by
  unfold cmpN
  rcases Nat.lt_trichotomy x y with h | h | h
  · rw [if_pos h]
    go_enter Try.func67, Try.ntmps67
    go_wp2
    go_ret
    exact ⟨rfl, rfl⟩
  · subst h
    rw [if_neg (by omega), if_pos rfl]
    go_enter Try.func67, Try.ntmps67
    go_wp2
    go_ret
    exact ⟨rfl, rfl⟩
  · rw [if_neg (by omega), if_neg (by omega)]
    go_enter Try.func67, Try.ntmps67
    go_wp2
    go_ret
    exact ⟨rfl, rfl⟩

end Go.Proofs.Ythkeehfoefjnfaa
