/-
  The reference's Cmp.
-/
import Derived.Test.YthkeehfoefjnfaaRSmall
import Derived.Deep.RegionWith
namespace Go.Proofs.Ythkeehfoefjnfaa
set_option linter.unusedVariables false
set_option linter.unusedSimpArgs false
open Go.RowKit Num

theorem div_bit (x i : Nat) : x / 2 ^ i = 2 * (x / 2 ^ (i + 1)) + (x.testBit i).toNat := by
  rw [Nat.pow_succ, ← Nat.div_div_eq_div_mul, Nat.testBit_eq_decide_div_mod_eq]
  have := Nat.mod_two_eq_zero_or_one (x / 2 ^ i)
  rcases this with h | h <;> simp [h] <;> omega
theorem above_eq {x y i : Nat} (h : ∀ j, i ≤ j → x.testBit j = y.testBit j) : x / 2 ^ i = y / 2 ^ i := by
  refine Nat.eq_of_testBit_eq fun j => ?_
  rw [Nat.testBit_div_two_pow, Nat.testBit_div_two_pow]
  exact h _ (by omega)
/-- Alike above place i, and there not: that bit tells. -/
theorem cmp_bit {x y i : Nat} (h : ∀ j, i + 1 ≤ j → x.testBit j = y.testBit j) (hne : x.testBit i ≠ y.testBit i) : cmpN x y = if x.testBit i then 1 else -1 := by
  have e := above_eq h
  have hx := div_bit x i
  have hy := div_bit y i
  rw [e] at hx
  have hp := Nat.two_pow_pos i
  have mx := Nat.div_add_mod x (2 ^ i)
  have my := Nat.div_add_mod y (2 ^ i)
  have lx := Nat.mod_lt x hp
  have ly := Nat.mod_lt y hp
  generalize y / 2 ^ (i + 1) = q at *
  generalize x / 2 ^ i = u at *
  generalize y / 2 ^ i = v at *
  generalize 2 ^ i = p at *
  unfold cmpN
  cases hxb : x.testBit i <;> cases hyb : y.testBit i <;> rw [hxb] at hne hx <;> rw [hyb] at hne hy
  · exact absurd rfl hne
  · have : u + 1 = v := by simp at hx hy; omega
    subst this
    rw [Nat.mul_add] at my
    rw [if_pos (by omega)]
    rfl
  · have : v + 1 = u := by simp at hx hy; omega
    subst this
    rw [Nat.mul_add] at mx
    rw [if_neg (by omega), if_neg (by omega)]
    rfl
  · exact absurd rfl hne
theorem cmp_all {x y : Nat} (h : ∀ j, 0 ≤ j → x.testBit j = y.testBit j) : cmpN x y = 0 := by
  have : x = y := Nat.eq_of_testBit_eq fun j => h j (Nat.zero_le _)
  subst this
  simp [cmpN]

def RCmpCut (n m : Nat) (w : World) (t : Value) (wx : World) : Prop := w = wx ∧ ∃ M : Nat, n ≤ M ∧ m ≤ M ∧ M ≤ 32000000 ∧ t = .int .i64 ((M : Int) - 1)
theorem rat_nat {A : Option Addr} {c n : Nat} {bs : List Bool} {w : World} (h : Bl w A c bs) (hn : bs.length = n) (hl : n ≤ 100000000) (k : Nat) {r : Bool} (hr : r = bs[k]?.getD false) :
    Calls Try.prog 62 #[.slice A n c, .int .i64 (k : Int)] w fun e w' => e = .returned (.bool r) ∧ w = w' := by
  subst hn
  exact rat_val h hl (by rw [hr]; simp)
theorem above_next {bs ds : List Bool} {q : Nat} (h : ∀ j, q + 1 ≤ j → bs[j]?.getD false = ds[j]?.getD false) (he : bs[q]?.getD false = ds[q]?.getD false) : ∀ j, q ≤ j → bs[j]?.getD false = ds[j]?.getD false := fun j hj => by
  rcases Nat.lt_or_ge q j with h1 | h1
  · exact h j h1
  · obtain rfl : j = q := by omega
    exact he
theorem cmp_bits {bs ds : List Bool} {q : Nat} (h : ∀ j, q + 1 ≤ j → bs[j]?.getD false = ds[j]?.getD false) {x y : Bool} (hx : x = bs[q]?.getD false) (hy : y = ds[q]?.getD false) (hne : x ≠ y) : cmpN (bval bs) (bval ds) = if x then 1 else -1 := by
  rw [cmp_bit (i := q) (fun j hj => by rw [bval_testBit, bval_testBit]; exact h j hj) (by rw [bval_testBit, bval_testBit, ← hx, ← hy]; exact hne), bval_testBit, ← hx]

set_option maxRecDepth 100000 in
set_option maxHeartbeats 3200000 in
theorem rcmp_any (A B : Option Addr) (c d : Nat) (xs ys : List Nat) (w : World) (h : Us w A c xs) (k : Us w B d ys) (hx : xs.length ≤ 1000000) (hy : ys.length ≤ 1000000) :
    Calls Try.prog 17 #[.slice A xs.length c, .slice B ys.length d] w fun e w' => e = .returned (.int .i64 (cmpN (val xs) (val ys))) ∧ Below w.heap.size w w' := by
  have H1 := Lib.hid h
  have H2 := Lib.hid k
  have hd := h.1
  have hd2 := k.1
  clear h k
  obtain ⟨z, hz⟩ : ∃ z, z = cmpN (val xs) (val ys) := ⟨_, rfl⟩
  rw [← hz]
  have HZ := Lib.hid hz
  clear hz
  go_enter Try.func17, Try.ntmps17
  go_upto_region 2 with (first
    | (go_at_call_of 61 (Value.slice A xs.length c); refine (bits_any A c xs _ H1.out hx).mono ?_; rintro e w1 ⟨A1, c1, bs, rfl, q1, k1, v1, b1⟩)
    | (go_at_call_of 61 (Value.slice B ys.length d); refine (bits_any B d ys _ (H2.out.below b1) hy).mono ?_; rintro e w2 ⟨A2, c2, ds, rfl, q2, k2, v2, b2⟩))
  have l1 := bits_len hd k1 v1
  have l2 := bits_len hd2 k2 v2
  have Q1 := Lib.hid (q1.below b2)
  have Q2 := Lib.hid q2
  have V := Lib.hid (And.intro v1 v2)
  have BB := Lib.hid (b1.trans (b2.mono b1.size))
  clear q1 q2 k1 k2 v1 v2 b1 b2 hd hd2 H1 H2
  obtain ⟨n, hn⟩ : ∃ n, n = bs.length := ⟨_, rfl⟩
  obtain ⟨m, hm⟩ : ∃ m, m = ds.length := ⟨_, rfl⟩
  rw [← hn] at l1 ⊢
  rw [← hm] at l2 ⊢
  have HN := Lib.hid (And.intro hn hm)
  have ln : n ≤ 32000000 := by omega
  have lm : m ≤ 32000000 := by omega
  clear hn hm l1 l2 hx hy
  go_cut [7] (fun t wx => RCmpCut n m w2 t wx)
  case first =>
    by_cases hnm : n < m
    · go_wp2
      all_goals (go_meet; exact ⟨rfl, m, by omega, by omega, by omega, by first | rfl | (congr 1; omega)⟩)
    · go_wp2
      all_goals (go_meet; exact ⟨rfl, n, by omega, by omega, by omega, by first | rfl | (congr 1; omega)⟩)
  case rest =>
    obtain ⟨rfl, M, hM1, hM2, hM3, rfl⟩ := hcut
    go_wp2_with fail
    go_loopw [7] (fun tv wr => ∃ (i : Nat) (t : Int), i ≤ M ∧ t = (i : Int) - 1 ∧ tv = .int .i64 t ∧ (∀ j, i ≤ j → bs[j]?.getD false = ds[j]?.getD false) ∧ w2 = wr) (fun tv _ => (intOf tv + 1).toNat)
    case atStart =>
      refine ⟨M, _, Nat.le_refl _, rfl, rfl, fun j hj => ?_, rfl⟩
      rw [List.getElem?_eq_none (by rw [← HN.out.1]; omega), List.getElem?_eq_none (by rw [← HN.out.2]; omega)]
    case round =>
      obtain ⟨i, t, hi, ht, rfl, hall, rfl⟩ := hrel
      have HA := Lib.hid hall
      clear hall
      by_cases h0 : 0 < i
      · obtain ⟨q, rfl⟩ : ∃ q, i = q + 1 := ⟨i - 1, by omega⟩
        obtain rfl : t = (q : Int) := by omega
        clear ht
        obtain ⟨xb, hxb⟩ : ∃ xb, xb = bs[q]?.getD false := ⟨_, rfl⟩
        obtain ⟨yb, hyb⟩ : ∃ yb, yb = ds[q]?.getD false := ⟨_, rfl⟩
        have HX := Lib.hid hxb
        have HY := Lib.hid hyb
        clear hxb hyb
        cases xb <;> cases yb
        case false.false =>
          go_wp2_with (first
            | (go_at_call_of 62 (Value.slice A1 n c1); refine (rat_nat Q1.out HN.out.1.symm (by omega) q HX.out).mono ?_; rintro e w' ⟨rfl, rfl⟩)
            | (go_at_call_of 62 (Value.slice A2 m c2); refine (rat_nat Q2.out HN.out.2.symm (by omega) q HY.out).mono ?_; rintro e w' ⟨rfl, rfl⟩))
          go_roundw
          case rel => exact ⟨q, (q : Int) - 1, by omega, rfl, rfl, above_next HA.out (HX.out.symm.trans HY.out), by first | trivial | rfl⟩
          case measure => simp [intOf] <;> omega
        case true.true =>
          go_wp2_with (first
            | (go_at_call_of 62 (Value.slice A1 n c1); refine (rat_nat Q1.out HN.out.1.symm (by omega) q HX.out).mono ?_; rintro e w' ⟨rfl, rfl⟩)
            | (go_at_call_of 62 (Value.slice A2 m c2); refine (rat_nat Q2.out HN.out.2.symm (by omega) q HY.out).mono ?_; rintro e w' ⟨rfl, rfl⟩))
          go_roundw
          case rel => exact ⟨q, (q : Int) - 1, by omega, rfl, rfl, above_next HA.out (HX.out.symm.trans HY.out), by first | trivial | rfl⟩
          case measure => simp [intOf] <;> omega
        case false.true =>
          go_wp2_with (first
            | (go_at_call_of 62 (Value.slice A1 n c1); refine (rat_nat Q1.out HN.out.1.symm (by omega) q HX.out).mono ?_; rintro e w' ⟨rfl, rfl⟩)
            | (go_at_call_of 62 (Value.slice A2 m c2); refine (rat_nat Q2.out HN.out.2.symm (by omega) q HY.out).mono ?_; rintro e w' ⟨rfl, rfl⟩))
          go_ret
          refine ⟨?_, BB.out⟩
          rw [HZ.out, ← V.out.1, ← V.out.2, cmp_bits HA.out HX.out HY.out (by simp)]
          rfl
        case true.false =>
          go_wp2_with (first
            | (go_at_call_of 62 (Value.slice A1 n c1); refine (rat_nat Q1.out HN.out.1.symm (by omega) q HX.out).mono ?_; rintro e w' ⟨rfl, rfl⟩)
            | (go_at_call_of 62 (Value.slice A2 m c2); refine (rat_nat Q2.out HN.out.2.symm (by omega) q HY.out).mono ?_; rintro e w' ⟨rfl, rfl⟩))
          go_ret
          refine ⟨?_, BB.out⟩
          rw [HZ.out, ← V.out.1, ← V.out.2, cmp_bits HA.out HX.out HY.out (by simp)]
          rfl
      · obtain rfl : i = 0 := by omega
        obtain rfl : t = -1 := by omega
        clear ht h0
        go_wp2
        go_ret
        refine ⟨?_, BB.out⟩
        rw [HZ.out, ← V.out.1, ← V.out.2, cmp_all (fun j hj => by rw [bval_testBit, bval_testBit]; exact HA.out j hj)]
        rfl

end Go.Proofs.Ythkeehfoefjnfaa
