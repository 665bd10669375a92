/-
  The reference's Norm, Len, Bit, Shr, Cmp.
-/
import Derived.Test.YthkeehfoefjnfaaROf
namespace Go.Proofs.Ythkeehfoefjnfaa
set_option linter.unusedVariables false
set_option linter.unusedSimpArgs false
open Go.RowKit Num

theorem bits_of {A : Option Addr} {c n : Nat} {xs : List Nat} {w : World} (h : Us w A c xs) (hn : xs.length = n) (hl : n ≤ 1000000) :
    Calls Try.prog 61 #[.slice A n c] w (RetB (val xs) w) := by
  subst hn
  exact bits_any A c xs w h hl
theorem of_of {A : Option Addr} {c n : Nat} {bs : List Bool} {w : World} (h : Bl w A c bs) (hn : bs.length = n) (hl : n ≤ 100000000) :
    Calls Try.prog 63 #[.slice A n c] w (RetU (bval bs) w) := by
  subst hn
  exact of_any A c bs w h hl
/-- A number's bits are no more than its limbs have. -/
theorem bits_len {xs : List Nat} {bs : List Bool} (hd : Dig xs) (hc : CanonB bs) (hv : bval bs = val xs) : bs.length ≤ 32 * xs.length := by
  refine lenB_le hc ?_
  rw [hv, Nat.pow_mul]
  exact val_lt hd

set_option maxHeartbeats 800000 in
theorem rnorm_any (A : Option Addr) (c : Nat) (xs : List Nat) (w : World) (h : Us w A c xs) (hl : xs.length ≤ 1000000) :
    Calls Try.prog 29 #[.slice A xs.length c] w (RetU (val xs) w) := by
  have HH := Lib.hid h
  have hd := h.1
  clear h
  go_enter Try.func29, Try.ntmps29
  go_wp2_with (first
    | (go_at_call 61; refine (bits_any A c xs _ HH.out hl).mono ?_; rintro e w1 ⟨A1, c1, bs, rfl, q1, k1, v1, b1⟩)
    | (go_at_call 63; refine (of_any A1 c1 bs _ q1 (by have := bits_len hd k1 v1; omega)).mono ?_; rintro e w2 ⟨A2, c2, rs, rfl, q2, k2, v2, b2⟩))
  go_ret
  exact ⟨A2, c2, rs, rfl, q2, k2, v2.trans v1, b1.trans (b2.mono b1.size)⟩

set_option maxHeartbeats 800000 in
theorem rlen_any (A : Option Addr) (c : Nat) (xs : List Nat) (w : World) (h : Us w A c xs) (hl : xs.length ≤ 1000000) :
    Calls Try.prog 23 #[.slice A xs.length c] w fun e w' => e = .returned (.int .i64 (blen (val xs) : Nat)) ∧ Below w.heap.size w w' := by
  have HH := Lib.hid h
  clear h
  go_enter Try.func23, Try.ntmps23
  go_wp2_with (go_at_call 61; refine (bits_any A c xs _ HH.out hl).mono ?_; rintro e w1 ⟨A1, c1, bs, rfl, q1, k1, v1, b1⟩)
  go_ret
  refine ⟨?_, b1⟩
  rw [← v1, ← lenB k1]
  rfl

set_option maxHeartbeats 800000 in
theorem rbit_any (A : Option Addr) (c : Nat) (xs : List Nat) (i : Int) (w : World) (h : Us w A c xs) (hl : xs.length ≤ 1000000) :
    Calls Try.prog 25 #[.slice A xs.length c, .int .i64 i] w fun e w' => e = .returned (.bool (decide (0 ≤ i) && (val xs).testBit i.toNat)) ∧ Below w.heap.size w w' := by
  have HH := Lib.hid h
  have hd := h.1
  clear h
  obtain ⟨r, hr⟩ : ∃ r, r = (decide (0 ≤ i) && (val xs).testBit i.toNat) := ⟨_, rfl⟩
  rw [← hr]
  have HR := Lib.hid hr
  clear hr
  go_enter Try.func25, Try.ntmps25
  go_wp2_with (first
    | (go_at_call 61; refine (bits_any A c xs _ HH.out hl).mono ?_; rintro e w1 ⟨A1, c1, bs, rfl, q1, k1, v1, b1⟩; have hr2 := HR.out; rw [← v1, bval_testBit] at hr2; have HR2 := Lib.hid hr2; clear hr2)
    | (go_at_call 62; refine (rat_val q1 (by have := bits_len hd k1 v1; omega) HR2.out).mono ?_; rintro e w2 ⟨rfl, rfl⟩))
  go_ret
  exact ⟨rfl, b1⟩

set_option maxHeartbeats 1600000 in
theorem rshr_any (A : Option Addr) (c : Nat) (xs : List Nat) (k : Nat) (w : World) (h : Us w A c xs) (hl : xs.length ≤ 1000000) (hk : k ≤ 10000) :
    Calls Try.prog 21 #[.slice A xs.length c, .int .i64 (k : Int)] w (RetU (val xs / 2 ^ k) w) := by
  have HH := Lib.hid h
  have hd := h.1
  clear h
  go_enter Try.func21, Try.ntmps21
  go_upto_region 2 with (go_at_call 61; refine (bits_any A c xs _ HH.out hl).mono ?_; rintro e w1 ⟨A1, c1, bs, rfl, q1, k1, v1, b1⟩)
  have hbl := bits_len hd k1 v1
  have hcap := q1.cap
  have Q1 := Lib.hid q1
  have K1 := Lib.hid (And.intro k1 v1)
  have B1 := Lib.hid b1
  clear q1 k1 v1 b1
  by_cases hlt : k < bs.length
  · obtain ⟨b, off, rfl, hb, hc⟩ := Q1.out.at_ (by omega)
    have hcn : (c1 == k) = false := by rw [beq_eq_false_iff_ne]; omega
    have hD := Lib.hid (Q1.out.drop (Nat.le_of_lt hlt))
    have hdl : (bs.drop k).length = bs.length - k := List.length_drop
    have HDL := Lib.hid hdl
    clear hc hdl
    go_wp2_with (go_at_call 63; refine (of_of hD.out HDL.out (by omega)).mono ?_; rintro e w2 ⟨A2, c2, rs, rfl, q2, k2, v2, b2⟩)
    go_ret
    exact ⟨A2, c2, rs, rfl, q2, k2, by rw [v2, bval_drop, K1.out.2], B1.out.trans (b2.mono B1.out.size)⟩
  · go_wp2
    go_ret
    refine ⟨none, 0, [], rfl, Us.nil _, canon_nil, ?_, B1.out⟩
    rw [← K1.out.2, Nat.div_eq_of_lt (Nat.lt_of_lt_of_le (bval_lt bs) (Nat.pow_le_pow_right (by decide) (by omega)))]
    rfl
theorem rshr_no (A : Option Addr) (c : Nat) (xs : List Nat) (k : Int) (w : World) (h : Us w A c xs) (hl : xs.length ≤ 1000000) (hk : k < 0 ∨ 10000 < k) :
    Calls Try.prog 21 #[.slice A xs.length c, .int .i64 k] w (RetU 0 w) := by
  have HH := Lib.hid h
  clear h
  by_cases h0 : k < 0
  · go_enter Try.func21, Try.ntmps21
    go_wp2_with (go_at_call 61; refine (bits_any A c xs _ HH.out hl).mono ?_; rintro e w1 ⟨A1, c1, bs, rfl, q1, k1, v1, b1⟩)
    go_ret
    exact ⟨none, 0, [], rfl, Us.nil _, canon_nil, rfl, b1⟩
  · have h1 : 10000 < k := by omega
    clear hk
    go_enter Try.func21, Try.ntmps21
    go_wp2_with (go_at_call 61; refine (bits_any A c xs _ HH.out hl).mono ?_; rintro e w1 ⟨A1, c1, bs, rfl, q1, k1, v1, b1⟩)
    go_ret
    exact ⟨none, 0, [], rfl, Us.nil _, canon_nil, rfl, b1⟩

end Go.Proofs.Ythkeehfoefjnfaa
