/-
  big: Shr of the program and of the reference.
-/
import Derived.Test.YthkeehfoefjnfaaBigD
namespace Go.Proofs.Ythkeehfoefjnfaa
set_option linter.unusedVariables false
set_option linter.unusedSimpArgs false
open Go.RowKit Num

def shrI (x : Int) (n : Int) : Int := if 0 ≤ n ∧ n ≤ 10000 then x / 2 ^ n.toNat else 0
theorem ival_shr {xs r : List Nat} {n : Int} (h : val r = shrN (val xs) n) : ival false r = shrI (ival false xs) n := by
  unfold ival shrI
  rw [h]
  unfold shrN
  by_cases hn : 0 ≤ n ∧ n ≤ 10000
  · rw [if_pos hn, if_pos hn]
    simp
  · rw [if_neg hn, if_neg hn]
    rfl
theorem div_flip (x d : Int) (hd : 0 < d) : -1 - (-1 - x) / d = x / d := by
  have e1 := Int.emod_add_mul_ediv x d
  have h1 := Int.emod_nonneg x (show d ≠ 0 by omega)
  have h2 := Int.emod_lt_of_pos x hd
  have e : -1 - x = (d - 1 - x % d) + d * (-1 - x / d) := by
    rw [Int.mul_sub, Int.mul_neg, Int.mul_one]
    omega
  rw [e, Int.add_mul_ediv_left _ _ (by omega), Int.ediv_eq_zero_of_lt (by omega) (by omega)]
  omega
theorem shr_flip (x n : Int) (hn : 0 ≤ n ∧ n ≤ 10000) : -1 - shrI (-1 - x) n = shrI x n := by
  unfold shrI
  rw [if_pos hn, if_pos hn]
  exact div_flip x _ (Int.pow_pos (by decide))
theorem shrI_no (x n : Int) (hn : ¬ (0 ≤ n ∧ n ≤ 10000)) : shrI x n = 0 := by
  unfold shrI
  rw [if_neg hn]
theorem shrI_pos (x n : Int) (h : 0 ≤ x) : 0 ≤ shrI x n ∧ shrI x n ≤ x := by
  unfold shrI
  split
  · exact ⟨Int.ediv_nonneg h (Int.le_of_lt (Int.pow_pos (by decide))), Int.ediv_le_self _ h⟩
  · omega

set_option maxRecDepth 100000 in
set_option maxHeartbeats 1600000 in
theorem bshr_no (s : Bool) (A : Option Addr) (c m : Nat) (n : Int) (w : World) (hn : n < 0 ∨ 10000 < n) :
    Calls Try.prog 56 #[.agg #[.bool s, .slice A m c], .int .i64 n] w (RetI 0 w) := by
  obtain ⟨hX, hR, hB⟩ := box2 w (.bool s) (.slice A m c) (.bool false) (.slice none 0 0) 43
  have HR := Lib.hid hR
  have HB := Lib.hid hB
  clear hX hR hB
  go_enter Try.func56, Try.ntmps56
  rcases hn with hn | hn
  all_goals
    go_wp2_with fail
    refine bodyPost_ret (v := .agg #[.bool false, .slice none 0 0]) (by simp [results, Try.results56, go_sem]) rfl ?_
    exact ⟨none, 0, false, [], rfl, Us.nil _, ⟨canon_nil, by simp⟩, rfl, HB.out⟩

set_option maxRecDepth 100000 in
set_option maxHeartbeats 1600000 in
theorem bshr_pos (A : Option Addr) (c : Nat) (xs : List Nat) (n : Int) (w : World) (h : Us w A c xs) (hl : xs.length ≤ 60000) (hn : 0 ≤ n ∧ n ≤ 10000) :
    Calls Try.prog 56 #[.agg #[.bool false, .slice A xs.length c], .int .i64 n] w (RetI (shrI (ival false xs) n) w) := by
  have hcap := h.cap
  obtain ⟨hX, hR, hB⟩ := box2 w (.bool false) (.slice A xs.length c) (.bool false) (.slice none 0 0) 43
  have HR := Lib.hid hR
  have HB := Lib.hid hB
  have H1 := Lib.hid (h.below HB.out)
  clear h hX hR hB
  obtain ⟨n1, n2⟩ := hn
  go_enter Try.func56, Try.ntmps56
  go_wp2_with (first
    | (go_at_call 20; go_loud (refine (shr_z _ _ xs n _ H1.out (by omega)).mono ?_; rintro e w1 ⟨A1, c1, r1, rfl, q1, k1, v1, b1⟩; have HV := Lib.hid v1; clear v1))
    | (go_at_call 72; go_loud (refine (signed_any false _ _ r1 _ q1 k1).mono ?_; rintro e w2 ⟨A2, c2, s2, r2, rfl, q2, k2, v2, b2⟩; obtain ⟨y1, y2, y3, y4, _⟩ := (HR.out.below b1).below b2; have HV2 := Lib.hid v2; clear v2)))
  obtain ⟨e1, e2, _, _, _⟩ := (((HR.out.below b1).below b2).set (.bool s2) (.slice A2 r2.length c2))
  refine bodyPost_ret (v := .agg #[.bool s2, .slice A2 r2.length c2]) (by simp [results, Try.results56, go_sem, e1, e2]) rfl ?_
  exact RetI.box (by omega) ((HR.out.below b1).below b2) q2 k2 (HV2.out.trans (ival_shr HV.out)) ((HB.out.trans (b1.mono HB.out.size)).trans (b2.mono (HB.out.trans (b1.mono HB.out.size)).size))

set_option maxRecDepth 100000 in
set_option maxHeartbeats 1600000 in
theorem bshr_neg (A : Option Addr) (c : Nat) (xs : List Nat) (n : Int) (w : World) (h : Us w A c xs) (hl : xs.length ≤ 60000) (hc : CanonI true xs) (hn : 0 ≤ n ∧ n ≤ 10000) :
    Calls Try.prog 56 #[.agg #[.bool true, .slice A xs.length c], .int .i64 n] w (RetI (shrI (ival true xs) n) w) := by
  have hcap := h.cap
  have hneg : ival true xs < 0 := by
    have : val xs ≠ 0 := fun e => hc.2 rfl (canon_zero hc.1 e)
    unfold ival
    simp only [if_true]
    omega
  have habs := val_lt h.1
  rw [val_ival true xs] at habs
  obtain ⟨x, hx⟩ : ∃ x, x = ival true xs := ⟨_, rfl⟩
  rw [← hx] at hneg habs ⊢
  obtain ⟨K, hK⟩ : ∃ K, K = xs.length := ⟨_, rfl⟩
  rw [← hK] at habs
  have HKL := Lib.hid (show K ≤ 60000 by omega)
  have HXX := Lib.hid hx
  have HN := Lib.hid hn
  have HAB := Lib.hid habs
  obtain ⟨hX, hR, hB⟩ := box2 w (.bool true) (.slice A xs.length c) (.bool false) (.slice none 0 0) 43
  have HX := Lib.hid hX
  have HR := Lib.hid hR
  have HB := Lib.hid hB
  have H1 := Lib.hid (h.below HB.out)
  clear h hX hR hB hx habs hK
  obtain ⟨n1, n2⟩ := hn
  have tok : True := trivial
  go_enter Try.func56, Try.ntmps56
  go_wp2_with (first
    | (go_at_call 75; have _t := tok; refine (bfrom_any true _ _ xs _ H1.out hl).mono ?_; rintro e w1 ⟨A1, c1, s1, r1, rfl, q1, k1, v1, b1⟩; clear tok _t; obtain rfl := k1.plus (by rw [v1, ← HXX.out]; omega); have l1 := len_ival k1 v1 K (by rw [← HXX.out]; have := HAB.out; omega); have l1 := Nat.le_trans l1 HKL.out; have HV := Lib.hid v1; clear v1)
    | (go_at_call 56; go_loud (refine (bshr_pos _ _ r1 n _ q1 l1 HN.out).mono ?_; rintro e w2 ⟨A2, c2, s2, r2, rfl, q2, k2, v2, b2⟩; have l2 := len_ival k2 v2 K (by have := shrI_pos (ival false r1) n (by rw [HV.out, ← HXX.out]; omega); have e := HV.out; rw [← HXX.out] at e; have := HAB.out; omega); have l2 := Nat.le_trans l2 HKL.out; have HV2 := Lib.hid v2; clear v2))
    | (go_at_call 75; go_loud (refine (bfrom_any s2 _ _ r2 _ q2 l2).mono ?_; rintro e w3 ⟨A3, c3, s3, r3, rfl, q3, k3, v3, b3⟩; obtain ⟨y1, y2, y3, y4, _⟩ := ((HR.out.below b1).below b2).below b3; have HV3 := Lib.hid v3; clear v3)))
  obtain ⟨e1, e2, _, _, _⟩ := ((((HR.out.below b1).below b2).below b3).set (.bool s3) (.slice A3 r3.length c3))
  refine bodyPost_ret (v := .agg #[.bool s3, .slice A3 r3.length c3]) (by simp [results, Try.results56, go_sem, e1, e2]) rfl ?_
  have hb1 := HB.out.trans (b1.mono HB.out.size)
  have hb2 := hb1.trans (b2.mono hb1.size)
  exact RetI.box (by omega) (((HR.out.below b1).below b2).below b3) q3 k3 (by rw [HV3.out, HV2.out, HV.out, ← HXX.out, shr_flip _ _ HN.out]) (hb2.trans (b3.mono hb2.size))

theorem bshr_any (s : Bool) (A : Option Addr) (c : Nat) (xs : List Nat) (n : Int) (w : World) (h : Us w A c xs) (hl : xs.length ≤ 60000) (hc : CanonI s xs) :
    Calls Try.prog 56 #[.agg #[.bool s, .slice A xs.length c], .int .i64 n] w (RetI (shrI (ival s xs) n) w) := by
  by_cases hn : 0 ≤ n ∧ n ≤ 10000
  · cases s
    · exact bshr_pos A c xs n w h hl hn
    · exact bshr_neg A c xs n w h hl hc hn
  · rw [shrI_no _ _ hn]
    exact bshr_no s A c xs.length n w (by omega)

end Go.Proofs.Ythkeehfoefjnfaa
