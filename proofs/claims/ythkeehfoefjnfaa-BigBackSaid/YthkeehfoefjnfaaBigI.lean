/-
  big: the reference's Int.
-/
import Derived.Test.YthkeehfoefjnfaaBigH
namespace Go.Proofs.Ythkeehfoefjnfaa
set_option linter.unusedVariables false
set_option linter.unusedSimpArgs false
open Go.RowKit Num

theorem val_drop_le (xs : List Nat) (k : Nat) : val (xs.drop k) ≤ val xs := by
  rcases Nat.lt_or_ge xs.length k with h | h
  · rw [List.drop_eq_nil_of_le (by omega)]
    exact Nat.zero_le _
  · rw [val_split xs k h]
    exact Nat.le_trans (Nat.le_mul_of_pos_left _ (Nat.pow_pos (by decide))) (Nat.le_add_left _ _)
theorem int_fin_pos {xs : List Nat} {u : Nat} (hu : u = val xs) (h : (u : Int) ≤ 9223372036854775807) : inI (ival false xs) = true ∧ outI (ival false xs) = u := by
  have e : ival false xs = (u : Int) := by rw [hu]; rfl
  obtain ⟨h1, h2⟩ := inI_yes (x := ival false xs) (by rw [e]; omega)
  exact ⟨h1, h2.trans e⟩
theorem int_fin_neg {xs : List Nat} {u : Nat} (hu : u = val xs) (h : (u : Int) ≤ 9223372036854775808) : inI (ival true xs) = true ∧ outI (ival true xs) = -u := by
  have e : ival true xs = -(u : Int) := by rw [hu]; rfl
  obtain ⟨h1, h2⟩ := inI_yes (x := ival true xs) (by rw [e]; omega)
  exact ⟨h1, h2.trans e⟩
theorem wrap_neg_int (u : Nat) (h : (u : Int) ≤ 9223372036854775808) : wrap64 (IntKind.u64.wrap (-(u : Int))) = -u := by
  simp [wrap64, IntKind.wrap, IntKind.bits, IntKind.signed]
  omega
theorem int_no (s : Bool) {xs : List Nat} (h : 9223372036854775808 < val xs) : inI (ival s xs) = false ∧ outI (ival s xs) = 0 := by
  have e := val_ival s xs
  exact inI_no (by omega)
theorem int_no_pos {xs : List Nat} (h : 9223372036854775807 < val xs) : inI (ival false xs) = false ∧ outI (ival false xs) = 0 := by
  have e : ival false xs = (val xs : Int) := rfl
  exact inI_no (by rw [e]; omega)
theorem ret_pair {a b : Int} {x y : Bool} (h : a = b) (k : x = y) : Ending.returned (.tuple #[.int .i64 a, .bool x]) = .returned (.tuple #[.int .i64 b, .bool y]) := by rw [h, k]

set_option maxRecDepth 100000 in
set_option maxHeartbeats 3200000 in
theorem rbint_any (s : Bool) (A : Option Addr) (c : Nat) (xs : List Nat) (w : World) (h : Us w A c xs) :
    Calls Try.prog 45 #[.agg #[.bool s, .slice A xs.length c]] w fun e w' => e = .returned (.tuple #[.int .i64 (outI (ival s xs)), .bool (inI (ival s xs))]) ∧ Below w.heap.size w w' := by
  have hcap := h.cap
  obtain ⟨n, hn⟩ : ∃ n, n = xs.length := ⟨_, rfl⟩
  rw [← hn] at hcap ⊢
  obtain ⟨hX, hB⟩ := box1 w (.bool s) (.slice A n c) 43
  obtain ⟨i1, hi1⟩ : ∃ i, i = inI (ival s xs) := ⟨_, rfl⟩
  obtain ⟨o1, ho1⟩ : ∃ i, i = outI (ival s xs) := ⟨_, rfl⟩
  rw [← hi1, ← ho1]
  have HB := Lib.hid hB
  have H1 := Lib.hid (h.below hB)
  have HI := Lib.hid hi1
  have HO := Lib.hid ho1
  have hd := h.1
  have HN := Lib.hid hn
  clear h hX hB hi1 ho1 hn
  go_enter Try.func45, Try.ntmps45
  go_wp2_with fail
  go_loop [4, 5] (fun u i => ∃ k v : Nat, k ≤ n ∧ i = .int .i64 ((k : Int) - 1) ∧ u = .int .u64 v ∧ v < 18446744073709551616 ∧ Hid (v = val (xs.drop k))) (fun _ i => (intOf i + 1).toNat)
  case atStart => exact ⟨n, 0, Nat.le_refl _, rfl, rfl, by decide, Lib.hid (by rw [List.drop_eq_nil_of_le (by rw [HN.out]; exact Nat.le_refl _)]; rfl)⟩
  case round =>
    obtain ⟨k, v, hk, rfl, rfl, hv, HV⟩ := hrel
    rcases Nat.eq_zero_or_pos k with rfl | hk0
    · have e0 : v = val xs := HV.out
      cases s
      · by_cases hle : (v : Int) ≤ 9223372036854775807
        · have HE := Lib.hid (int_fin_pos e0 hle)
          clear e0
          go_wp2_with fail
          go_ret2
          exact ⟨ret_pair (by rw [HO.out, HE.out.2]) (by rw [HI.out, HE.out.1]), HB.out⟩
        · have HE := Lib.hid (int_no_pos (xs := xs) (by omega))
          clear e0
          go_wp2_with fail
          go_ret2
          exact ⟨ret_pair (by rw [HO.out, HE.out.2]) (by rw [HI.out, HE.out.1]), HB.out⟩
      · by_cases hle : (v : Int) ≤ 9223372036854775808
        · have HE := Lib.hid (int_fin_neg e0 hle)
          clear e0
          go_wp2_with fail
          go_ret2
          exact ⟨ret_pair (by rw [HO.out, HE.out.2, wrap_neg_int v hle]) (by rw [HI.out, HE.out.1]), HB.out⟩
        · have HE := Lib.hid (int_no true (xs := xs) (by omega))
          clear e0
          go_wp2_with fail
          go_ret2
          exact ⟨ret_pair (by rw [HO.out, HE.out.2]) (by rw [HI.out, HE.out.1]), HB.out⟩
    · obtain ⟨j, rfl⟩ : ∃ j, k = j + 1 := ⟨k - 1, by omega⟩
      obtain ⟨b, off, rfl, hb, hc⟩ := H1.out.at_ (by rw [← HN.out]; omega)
      have c0 := hc j (by rw [← HN.out]; omega)
      obtain ⟨x, hx⟩ : ∃ x, x = xs[j]?.getD 0 := ⟨_, rfl⟩
      rw [← hx] at c0
      have hxl : x < 4294967296 := by rw [hx]; exact hd.getD j
      have HS := Lib.hid (show val (xs.drop j) = x + 4294967296 * v by rw [hx, HV.out]; exact val_drop (by rw [← HN.out]; omega))
      clear hc hx
      have i1 : ((j + 1 : Nat) : Int) - 1 = (j : Int) := by omega
      rw [i1]
      clear i1
      by_cases hvb : 4294967295 < v
      · have HE := Lib.hid (int_no s (xs := xs) (by have h1 := val_drop_le xs j; have h2 := HS.out; omega))
        go_wp2_with fail
        go_ret2
        exact ⟨ret_pair (by rw [HO.out, HE.out.2]) (by rw [HI.out, HE.out.1]), HB.out⟩
      · have hsum : x + 4294967296 * v < 18446744073709551616 := by omega
        go_wp2_with fail
        go_round
        case rel => exact ⟨j, x + 4294967296 * v, by omega, rfl, by go_num, hsum, Lib.hid HS.out.symm⟩
        case measure => simp [intOf]

end Go.Proofs.Ythkeehfoefjnfaa
