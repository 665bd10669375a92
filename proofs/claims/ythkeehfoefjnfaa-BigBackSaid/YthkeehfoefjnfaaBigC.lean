/-
  big: Of, Pow, Sub of the program and of the reference.
-/
import Derived.Test.YthkeehfoefjnfaaBigB
import Derived.Test.YthkeehfoefjnfaaBackLaw
namespace Go.Proofs.Ythkeehfoefjnfaa
set_option linter.unusedVariables false
set_option linter.unusedSimpArgs false
open Go.RowKit Num

theorem us_pairI (W : World) (u v : Int) (U V : Nat) (t : TypeId) (hu : u = (U : Int)) (hv : v = (V : Int)) (lu : U < 4294967296) (lv : V < 4294967296) :
    Us (W.alloc (.cells #[.int .u32 u, .int .u32 v] t)) (some ⟨W.heap.size, 0, none⟩) 2 [U, V] := by
  subst hu hv
  exact us_pair W U V t lu lv
theorem us_pairJ (w : World) (o : Obj) (u v : Int) (U V : Nat) (t : TypeId) (hu : u = (U : Int)) (hv : v = (V : Int)) (lu : U < 4294967296) (lv : V < 4294967296) :
    Us ((w.alloc o).alloc (.cells #[.int .u32 u, .int .u32 v] t)) (some ⟨w.heap.size + 1, 0, none⟩) 2 [U, V] := by
  have h := us_pairI (w.alloc o) u v U V t hu hv lu lv
  have e : (w.alloc o).heap.size = w.heap.size + 1 := by simp
  rw [e] at h
  exact h
theorem wrap_min (n : Int) (h0 : -9223372036854775808 ≤ n) (h1 : n < 0) : IntKind.u64.wrap (-IntKind.u64.wrap n) = -n := by
  simp [IntKind.wrap, IntKind.bits, IntKind.signed]
  omega
theorem wrap_min_lo (n : Int) (m : Nat) (h0 : -9223372036854775808 ≤ n) (h1 : n < 0) (hm : m = n.natAbs) : IntKind.u64.wrap (-IntKind.u64.wrap n) % 4294967296 = ((m % 4294967296 : Nat) : Int) := by
  rw [wrap_min n h0 h1]
  omega
theorem wrap_min_hi (n : Int) (m : Nat) (h0 : -9223372036854775808 ≤ n) (h1 : n < 0) (hm : m = n.natAbs) : IntKind.u64.wrap (-IntKind.u64.wrap n) / 4294967296 % 4294967296 = ((m / 4294967296 : Nat) : Int) := by
  rw [wrap_min n h0 h1]
  omega
theorem wrap_min_lo2 (n : Int) (m : Nat) (h0 : -9223372036854775808 ≤ n) (h1 : n < 0) (hm : m = n.natAbs) : (IntKind.u64.wrap (-IntKind.u64.wrap n)).tmod 4294967296 % 4294967296 = ((m % 4294967296 : Nat) : Int) := by
  rw [wrap_min n h0 h1, Int.tmod_eq_emod_of_nonneg (by omega)]
  omega
theorem wrap_min_hi2 (n : Int) (m : Nat) (h0 : -9223372036854775808 ≤ n) (h1 : n < 0) (hm : m = n.natAbs) : IntKind.u64.wrap ((IntKind.u64.wrap (-IntKind.u64.wrap n)).tdiv 4294967296) % 4294967296 = ((m / 4294967296 : Nat) : Int) := by
  rw [wrap_min n h0 h1, Int.tdiv_eq_ediv_of_nonneg (by omega), IntWalk.u64_in _ (by omega)]
  omega
theorem val_two (m : Nat) : val [m % 4294967296, m / 4294967296] = m := by
  simp only [val]
  omega
theorem ival_int {n : Int} {m : Nat} {r : List Nat} (hm : m = n.natAbs) (h : val r = val [m % 4294967296, m / 4294967296]) : ival (decide (n < 0)) r = n := by
  rw [val_two] at h
  unfold ival
  rw [h]
  by_cases hn : n < 0 <;> simp [hn] <;> omega

set_option maxRecDepth 100000 in
set_option maxHeartbeats 1600000 in
theorem bof_any (n : Int) (w : World) (h0 : -9223372036854775808 ≤ n) (h1 : n ≤ 9223372036854775807) :
    Calls Try.prog 37 #[.int .i64 n] w (RetI n w) := by
  obtain ⟨m, hm⟩ : ∃ m, m = n.natAbs := ⟨_, rfl⟩
  have lu : m % 4294967296 < 4294967296 := Nat.mod_lt _ (by decide)
  have lv : m / 4294967296 < 4294967296 := by omega
  obtain ⟨hR, hB⟩ := box1 w (.bool false) (.slice none 0 0) 43
  have HR := Lib.hid hR
  have HB := Lib.hid hB
  have HM := Lib.hid hm
  clear hR hB
  by_cases hn : 0 ≤ n
  · have HL := Lib.hid (show n % 4294967296 = ((m % 4294967296 : Nat) : Int) by omega)
    have HH := Lib.hid (show n / 4294967296 = ((m / 4294967296 : Nat) : Int) by omega)
    clear hm lu lv
    have HU := Lib.hid (us_pairJ w (.cells #[.bool false, .slice none 0 0] 43) _ _ _ _ 35 HL.out HH.out (Nat.mod_lt _ (by decide)) (by have := HM.out; omega))
    clear HL HH
    go_enter Try.func37, Try.ntmps37
    go_wp2_with (first
      | (go_at_call 28; go_loud (refine (norm_any _ _ [m % 4294967296, m / 4294967296] _ HU.out (by simp)).mono ?_; rintro e w1 ⟨A1, c1, r1, rfl, q1, k1, v1, b1⟩; obtain ⟨x1, x2, x3, x4, _⟩ := (HR.out.alloc _).below b1; have HV := Lib.hid v1; clear v1))
      | (go_at_call 72; refine (signed_any _ _ _ r1 _ q1 k1).mono ?_; rintro e w2 ⟨A2, c2, s2, r2, rfl, q2, k2, v2, b2⟩; obtain ⟨y1, y2, y3, y4, _⟩ := ((HR.out.alloc _).below b1).below b2; have HV2 := Lib.hid v2; clear v2))
    obtain ⟨e1, e2, _, _, _⟩ := ((((HR.out.alloc _).below b1).below b2).set (.bool s2) (.slice A2 r2.length c2))
    refine bodyPost_ret (v := .agg #[.bool s2, .slice A2 r2.length c2]) (by simp [results, Try.results37, go_sem, e1, e2]) rfl ?_
    have hb1 := (HB.out.alloc (by simp) _).trans (b1.mono (by simp <;> omega))
    exact RetI.box (by omega) (((HR.out.alloc _).below b1).below b2) q2 k2 (HV2.out.trans (ival_int HM.out HV.out)) (hb1.trans (b2.mono hb1.size))
  · have HL := Lib.hid (wrap_min_lo n m h0 (by omega) hm)
    have HH := Lib.hid (wrap_min_hi n m h0 (by omega) hm)
    clear hm lu lv
    have HU := Lib.hid (us_pairJ w (.cells #[.bool false, .slice none 0 0] 43) _ _ _ _ 35 HL.out HH.out (Nat.mod_lt _ (by decide)) (by have := HM.out; omega))
    clear HL HH
    go_enter Try.func37, Try.ntmps37
    go_wp2_with (first
      | (go_at_call 28; go_loud (refine (norm_any _ _ [m % 4294967296, m / 4294967296] _ HU.out (by simp)).mono ?_; rintro e w1 ⟨A1, c1, r1, rfl, q1, k1, v1, b1⟩; obtain ⟨x1, x2, x3, x4, _⟩ := (HR.out.alloc _).below b1; have HV := Lib.hid v1; clear v1))
      | (go_at_call 72; refine (signed_any true _ _ r1 _ q1 k1).mono ?_; rintro e w2 ⟨A2, c2, s2, r2, rfl, q2, k2, v2, b2⟩; obtain ⟨y1, y2, y3, y4, _⟩ := ((HR.out.alloc _).below b1).below b2; have HV2 := Lib.hid v2; clear v2))
    obtain ⟨e1, e2, _, _, _⟩ := ((((HR.out.alloc _).below b1).below b2).set (.bool s2) (.slice A2 r2.length c2))
    refine bodyPost_ret (v := .agg #[.bool s2, .slice A2 r2.length c2]) (by simp [results, Try.results37, go_sem, e1, e2]) rfl ?_
    have hb1 := (HB.out.alloc (by simp) _).trans (b1.mono (by simp <;> omega))
    have hi := ival_int HM.out HV.out
    rw [decide_eq_true (by omega)] at hi
    exact RetI.box (by omega) (((HR.out.alloc _).below b1).below b2) q2 k2 (HV2.out.trans hi) (hb1.trans (b2.mono hb1.size))

set_option maxRecDepth 100000 in
set_option maxHeartbeats 1600000 in
theorem rbof_any (n : Int) (w : World) (h0 : -9223372036854775808 ≤ n) (h1 : n ≤ 9223372036854775807) :
    Calls Try.prog 39 #[.int .i64 n] w (RetI n w) := by
  obtain ⟨m, hm⟩ : ∃ m, m = n.natAbs := ⟨_, rfl⟩
  obtain ⟨hR, hB⟩ := box1 w (.bool false) (.slice none 0 0) 43
  have HR := Lib.hid hR
  have HB := Lib.hid hB
  have HM := Lib.hid hm
  clear hR hB
  by_cases hn : 0 ≤ n
  · have HL := Lib.hid (show n % 4294967296 = ((m % 4294967296 : Nat) : Int) by omega)
    have HH := Lib.hid (show n / 4294967296 = ((m / 4294967296 : Nat) : Int) by omega)
    clear hm
    have HU := Lib.hid (us_pairJ w (.cells #[.bool false, .slice none 0 0] 43) _ _ _ _ 35 HL.out HH.out (Nat.mod_lt _ (by decide)) (by have := HM.out; omega))
    clear HL HH
    go_enter Try.func39, Try.ntmps39
    go_wp2_with (go_at_call 73; refine (rsign_any _ _ _ [m % 4294967296, m / 4294967296] _ HU.out (by simp)).mono ?_; rintro e w2 ⟨A2, c2, s2, r2, rfl, q2, k2, v2, b2⟩; obtain ⟨y1, y2, y3, y4, _⟩ := (HR.out.alloc _).below b2; have HV2 := Lib.hid v2; clear v2)
    obtain ⟨e1, e2, _, _, _⟩ := (((HR.out.alloc _).below b2).set (.bool s2) (.slice A2 r2.length c2))
    refine bodyPost_ret (v := .agg #[.bool s2, .slice A2 r2.length c2]) (by simp [results, Try.results39, go_sem, e1, e2]) rfl ?_
    exact RetI.box (by omega) ((HR.out.alloc _).below b2) q2 k2 (HV2.out.trans (ival_int HM.out rfl)) ((HB.out.alloc (by simp) _).trans (b2.mono (by simp <;> omega)))
  · have HL := Lib.hid (wrap_min_lo2 n m h0 (by omega) hm)
    have HH := Lib.hid (wrap_min_hi2 n m h0 (by omega) hm)
    clear hm
    have HU := Lib.hid (us_pairJ w (.cells #[.bool false, .slice none 0 0] 43) _ _ _ _ 35 HL.out HH.out (Nat.mod_lt _ (by decide)) (by have := HM.out; omega))
    clear HL HH
    go_enter Try.func39, Try.ntmps39
    go_wp2_with (go_at_call 73; refine (rsign_any true _ _ [m % 4294967296, m / 4294967296] _ HU.out (by simp)).mono ?_; rintro e w2 ⟨A2, c2, s2, r2, rfl, q2, k2, v2, b2⟩; obtain ⟨y1, y2, y3, y4, _⟩ := (HR.out.alloc _).below b2; have HV2 := Lib.hid v2; clear v2)
    obtain ⟨e1, e2, _, _, _⟩ := (((HR.out.alloc _).below b2).set (.bool s2) (.slice A2 r2.length c2))
    refine bodyPost_ret (v := .agg #[.bool s2, .slice A2 r2.length c2]) (by simp [results, Try.results39, go_sem, e1, e2]) rfl ?_
    have hi := ival_int (n := n) HM.out rfl
    rw [decide_eq_true (by omega)] at hi
    exact RetI.box (by omega) ((HR.out.alloc _).below b2) q2 k2 (HV2.out.trans hi) ((HB.out.alloc (by simp) _).trans (b2.mono (by simp <;> omega)))

end Go.Proofs.Ythkeehfoefjnfaa
