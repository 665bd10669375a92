/-
  BigInts holds of every input.
-/
import Derived.Test.YthkeehfoefjnfaaBigSums
namespace Go.Proofs.Ythkeehfoefjnfaa
set_option linter.unusedVariables false
set_option linter.unusedSimpArgs false
open Go.RowKit Num

theorem len_pow {s : Bool} {r : List Nat} {n : Int} (hc : CanonI s r) (hv : ival s r = shlI 1 n) : r.length ≤ 314 := by
  have h := lenI_shl (t := false) (xs := [1]) (n := n) (k := 1) (Dig.cons (by decide) Dig.nil) (by simp) hc (by rw [hv]; rfl)
  omega

set_option maxRecDepth 100000 in
set_option maxHeartbeats 6400000 in
theorem bints_right (s t : Bool) (A B : Option Addr) (c d : Nat) (xs ys : List Nat) (n : Int) (w : World) (h : Us w A c xs) (k : Us w B d ys) (hn : xs.length ≤ 60) (hm : ys.length ≤ 60) (hr : rightI s xs = true) (n0 : -9223372036854775808 ≤ n) (n1 : n ≤ 9223372036854775807) :
    Calls Try.prog 7 #[.int .i64 n, .agg #[.bool s, .slice A xs.length c], .agg #[.bool t, .slice B ys.length d]] w fun e w' => e = .returned (.bool true) ∧ Below w.heap.size w w' := by
  have s0 := Sb.start h k (.bool s) (.slice A xs.length c) (.bool t) (.slice B ys.length d) 43
  have hcap := h.cap
  have kcap := k.cap
  have HR := Lib.hid hr
  have HN := Lib.hid (show outI n = n ∧ inI n = true from ⟨(inI_yes ⟨n0, n1⟩).2, (inI_yes ⟨n0, n1⟩).1⟩)
  have HA := Lib.hid (show n.natAbs < 4294967296 ^ 2 by omega)
  obtain ⟨e1, he⟩ : ∃ e, e = decide (s = t ∧ xs = ys) := ⟨_, rfl⟩
  have HE := Lib.hid he
  obtain ⟨o1, o2, ho⟩ : ∃ o1 o2, o1 = outI (ival s xs) ∧ o2 = inI (ival s xs) := ⟨_, _, rfl, rfl⟩
  have HO := Lib.hid ho
  clear h k hr he ho
  go_enter Try.func7, Try.ntmps7
  go_wp2_with (first
    | (have _t := s0; go_at_call 34; clear _t; go_loud (refine (alive2_any _).mono ?_; rintro e w1 ⟨rfl, b⟩; have s1 := s0.step b; clear b s0; obtain ⟨x1, x2, z1, z2⟩ := s1.held2))
    | (have _t := s1; go_at_call 35; clear _t; go_loud (refine (great_no s _ _ _ _ hn).mono ?_; rintro e w2 ⟨rfl, b⟩; have s2 := s1.step b; clear b s1 x1 x2 z1 z2; obtain ⟨x1, x2, z1, z2⟩ := s2.held2))
    | (have _t := s2; go_at_call 35; clear _t; go_loud (refine (great_no t _ _ _ _ hm).mono ?_; rintro e w3 ⟨rfl, b⟩; have s3 := s2.step b; clear b s2 x1 x2 z1 z2; obtain ⟨x1, x2, z1, z2⟩ := s3.held2))
    | (have _t := s3; go_at_call 37; clear _t; go_loud (refine (bof_any n _ n0 n1).mono ?_; rintro e w4 ⟨A4, c4, g4, r4, rfl, q, k4, v4, b⟩; have HV := Lib.hid v4; have s4 := s3.call b q; clear b q s3 v4 x1 x2 z1 z2; obtain ⟨x1, x2, z1, z2⟩ := s4.held2))
    | (have _t := s4; go_at_call 36; clear _t; go_loud (refine (bint_any g4 _ _ r4 _ (s4.get (by simp)) k4.1).mono ?_; rintro e w5 ⟨rfl, b⟩; rw [HV.out, HN.out.1, HN.out.2]; have s5 := s4.step b; clear b s4 x1 x2 z1 z2)))
  have s6 := s5.drew
  clear s5
  go_region_held3 (fun w' => w'.cell? ⟨w.heap.size, 0, none⟩ = some (.bool s) ∧ w'.cell? ⟨w.heap.size, 1, none⟩ = some (.slice A xs.length c) ∧ w'.cell? ⟨w.heap.size + 1, 0, none⟩ = some (.bool t) ∧ w'.cell? ⟨w.heap.size + 1, 1, none⟩ = some (.slice B ys.length d))
    (exact Sb.held2 (by assumption))
    (first
    | (have _t := s6; go_at_call 37; clear _t; go_loud (refine (bof_any n _ n0 n1).mono ?_; rintro e w6 ⟨A6, c6, g6, r6, rfl, q, k6, v6, b⟩; have d6 := q.1; have s7 := s6.call b q; clear s6 b q))
    | (have _t := s7; go_at_call 39; clear _t; go_loud (refine (rbof_any n _ n0 n1).mono ?_; rintro e w7 ⟨A7, c7, g7, r7, rfl, q, k7, v7, b⟩; obtain ⟨rfl, rfl⟩ := uniqI d6 q.1 k6 k7 (v6.trans v7.symm); clear k7 v7; have s8 := s7.call b q; clear s7 b q))
    | (have _t := s8; go_at_call 38; clear _t; go_loud (refine (rbsame_any g6 g6 _ _ _ _ r6 r6 _ (s8.get (by simp)) (s8.get (by simp)) (by have := len_ival k6 v6 2 HA.out; omega)).mono ?_; rintro e w8 ⟨rfl, b⟩; rw [decide_eq_true (show g6 = g6 ∧ r6 = r6 from ⟨rfl, rfl⟩)]; have s9 := s8.step b; clear s8 b))
    | (have _t := s9; go_at_call 40; clear _t; go_loud (refine (bright_any s _ _ xs _ (s9.get (by simp)) (by omega)).mono ?_; rintro e w9 ⟨rfl, b⟩; rw [HR.out]; have s10 := s9.step b; clear s9 b))
    | (have _t := s10; go_at_call 41; clear _t; go_loud (refine (rbright_any s _ _ xs _ (s10.get (by simp)) (by omega)).mono ?_; rintro e w10 ⟨rfl, b⟩; rw [HR.out]; have s11 := s10.step b; clear s10 b))
    | (have _t := s11; go_at_call 42; clear _t; go_loud (refine (bsame_any s t _ _ _ _ xs ys _ (s11.get (by simp)) (s11.get (by simp)) (by omega)).mono ?_; rintro e w11 ⟨rfl, b⟩; rw [← HE.out]; have s12 := s11.step b; clear s11 b))
    | (have _t := s12; go_at_call 38; clear _t; go_loud (refine (rbsame_any s t _ _ _ _ xs ys _ (s12.get (by simp)) (s12.get (by simp)) (by omega)).mono ?_; rintro e w12 ⟨rfl, b⟩; rw [← HE.out]; have s13 := s12.step b; clear s12 b))
    | (have _t := s13; go_at_call 43; clear _t; go_loud (refine (bpow_any n _).mono ?_; rintro e w13 ⟨A13, c13, g13, r13, rfl, q, k13, v13, b⟩; have d13 := q.1; have s14 := s13.call b q; clear s13 b q))
    | (have _t := s14; go_at_call 44; clear _t; go_loud (refine (rbpow_any n _).mono ?_; rintro e w14 ⟨A14, c14, g14, r14, rfl, q, k14, v14, b⟩; obtain ⟨rfl, rfl⟩ := uniqI d13 q.1 k13 k14 (v13.trans v14.symm); clear k14 v14; have s15 := s14.call b q; clear s14 b q))
    | (have _t := s15; go_at_call 38; clear _t; go_loud (refine (rbsame_any g13 g13 _ _ _ _ r13 r13 _ (s15.get (by simp)) (s15.get (by simp)) (by have := len_pow k13 v13; omega)).mono ?_; rintro e w15 ⟨rfl, b⟩; rw [decide_eq_true (show g13 = g13 ∧ r13 = r13 from ⟨rfl, rfl⟩)]; have s16 := s15.step b; clear s15 b)))
  obtain ⟨x1, x2, z1, z2⟩ := s16.held2
  go_wp2_with (first
    | (have _t := s16; go_at_call 41; clear _t; go_loud (refine (rbright_any s _ _ xs _ (s16.get (by simp)) (by omega)).mono ?_; rintro e w16 ⟨rfl, b⟩; rw [HR.out]; have s17 := s16.step b; clear b s16 x1 x2 z1 z2; obtain ⟨x1, x2, z1, z2⟩ := s17.held2))
    | (have _t := s17; go_at_call 36; clear _t; go_loud (refine (bint_any s _ _ xs _ (s17.get (by simp)) (right_canon HR.out).1).mono ?_; rintro e w17 ⟨rfl, b⟩; rw [← HO.out.1, ← HO.out.2]; have s18 := s17.step b; clear b s17 x1 x2 z1 z2; obtain ⟨x1, x2, z1, z2⟩ := s18.held2))
    | (have _t := s18; go_at_call 45; clear _t; go_loud (refine (rbint_any s _ _ xs _ (s18.get (by simp))).mono ?_; rintro e w18 ⟨rfl, b⟩; rw [← HO.out.1, ← HO.out.2]; have s19 := s18.step b; clear b s18 x1 x2 z1 z2; obtain ⟨x1, x2, z1, z2⟩ := s19.held2)))
  go_ret
  exact ⟨rfl, s19.1.1⟩

set_option maxRecDepth 100000 in
set_option maxHeartbeats 6400000 in
theorem bints_wrong (s t : Bool) (A B : Option Addr) (c d : Nat) (xs ys : List Nat) (n : Int) (w : World) (h : Us w A c xs) (k : Us w B d ys) (hn : xs.length ≤ 60) (hm : ys.length ≤ 60) (hr : rightI s xs = false) (n0 : -9223372036854775808 ≤ n) (n1 : n ≤ 9223372036854775807) :
    Calls Try.prog 7 #[.int .i64 n, .agg #[.bool s, .slice A xs.length c], .agg #[.bool t, .slice B ys.length d]] w fun e w' => e = .returned (.bool true) ∧ Below w.heap.size w w' := by
  have s0 := Sb.start h k (.bool s) (.slice A xs.length c) (.bool t) (.slice B ys.length d) 43
  have hcap := h.cap
  have kcap := k.cap
  have HR := Lib.hid hr
  have HN := Lib.hid (show outI n = n ∧ inI n = true from ⟨(inI_yes ⟨n0, n1⟩).2, (inI_yes ⟨n0, n1⟩).1⟩)
  have HA := Lib.hid (show n.natAbs < 4294967296 ^ 2 by omega)
  obtain ⟨e1, he⟩ : ∃ e, e = decide (s = t ∧ xs = ys) := ⟨_, rfl⟩
  have HE := Lib.hid he
  obtain ⟨o1, o2, ho⟩ : ∃ o1 o2, o1 = outI (ival s xs) ∧ o2 = inI (ival s xs) := ⟨_, _, rfl, rfl⟩
  have HO := Lib.hid ho
  clear h k hr he ho
  go_enter Try.func7, Try.ntmps7
  go_wp2_with (first
    | (have _t := s0; go_at_call 34; clear _t; go_loud (refine (alive2_any _).mono ?_; rintro e w1 ⟨rfl, b⟩; have s1 := s0.step b; clear b s0; obtain ⟨x1, x2, z1, z2⟩ := s1.held2))
    | (have _t := s1; go_at_call 35; clear _t; go_loud (refine (great_no s _ _ _ _ hn).mono ?_; rintro e w2 ⟨rfl, b⟩; have s2 := s1.step b; clear b s1 x1 x2 z1 z2; obtain ⟨x1, x2, z1, z2⟩ := s2.held2))
    | (have _t := s2; go_at_call 35; clear _t; go_loud (refine (great_no t _ _ _ _ hm).mono ?_; rintro e w3 ⟨rfl, b⟩; have s3 := s2.step b; clear b s2 x1 x2 z1 z2; obtain ⟨x1, x2, z1, z2⟩ := s3.held2))
    | (have _t := s3; go_at_call 37; clear _t; go_loud (refine (bof_any n _ n0 n1).mono ?_; rintro e w4 ⟨A4, c4, g4, r4, rfl, q, k4, v4, b⟩; have HV := Lib.hid v4; have s4 := s3.call b q; clear b q s3 v4 x1 x2 z1 z2; obtain ⟨x1, x2, z1, z2⟩ := s4.held2))
    | (have _t := s4; go_at_call 36; clear _t; go_loud (refine (bint_any g4 _ _ r4 _ (s4.get (by simp)) k4.1).mono ?_; rintro e w5 ⟨rfl, b⟩; rw [HV.out, HN.out.1, HN.out.2]; have s5 := s4.step b; clear b s4 x1 x2 z1 z2)))
  have s6 := s5.drew
  clear s5
  go_region_held3 (fun w' => w'.cell? ⟨w.heap.size, 0, none⟩ = some (.bool s) ∧ w'.cell? ⟨w.heap.size, 1, none⟩ = some (.slice A xs.length c) ∧ w'.cell? ⟨w.heap.size + 1, 0, none⟩ = some (.bool t) ∧ w'.cell? ⟨w.heap.size + 1, 1, none⟩ = some (.slice B ys.length d))
    (exact Sb.held2 (by assumption))
    (first
    | (have _t := s6; go_at_call 37; clear _t; go_loud (refine (bof_any n _ n0 n1).mono ?_; rintro e w6 ⟨A6, c6, g6, r6, rfl, q, k6, v6, b⟩; have d6 := q.1; have s7 := s6.call b q; clear s6 b q))
    | (have _t := s7; go_at_call 39; clear _t; go_loud (refine (rbof_any n _ n0 n1).mono ?_; rintro e w7 ⟨A7, c7, g7, r7, rfl, q, k7, v7, b⟩; obtain ⟨rfl, rfl⟩ := uniqI d6 q.1 k6 k7 (v6.trans v7.symm); clear k7 v7; have s8 := s7.call b q; clear s7 b q))
    | (have _t := s8; go_at_call 38; clear _t; go_loud (refine (rbsame_any g6 g6 _ _ _ _ r6 r6 _ (s8.get (by simp)) (s8.get (by simp)) (by have := len_ival k6 v6 2 HA.out; omega)).mono ?_; rintro e w8 ⟨rfl, b⟩; rw [decide_eq_true (show g6 = g6 ∧ r6 = r6 from ⟨rfl, rfl⟩)]; have s9 := s8.step b; clear s8 b))
    | (have _t := s9; go_at_call 40; clear _t; go_loud (refine (bright_any s _ _ xs _ (s9.get (by simp)) (by omega)).mono ?_; rintro e w9 ⟨rfl, b⟩; rw [HR.out]; have s10 := s9.step b; clear s9 b))
    | (have _t := s10; go_at_call 41; clear _t; go_loud (refine (rbright_any s _ _ xs _ (s10.get (by simp)) (by omega)).mono ?_; rintro e w10 ⟨rfl, b⟩; rw [HR.out]; have s11 := s10.step b; clear s10 b))
    | (have _t := s11; go_at_call 42; clear _t; go_loud (refine (bsame_any s t _ _ _ _ xs ys _ (s11.get (by simp)) (s11.get (by simp)) (by omega)).mono ?_; rintro e w11 ⟨rfl, b⟩; rw [← HE.out]; have s12 := s11.step b; clear s11 b))
    | (have _t := s12; go_at_call 38; clear _t; go_loud (refine (rbsame_any s t _ _ _ _ xs ys _ (s12.get (by simp)) (s12.get (by simp)) (by omega)).mono ?_; rintro e w12 ⟨rfl, b⟩; rw [← HE.out]; have s13 := s12.step b; clear s12 b))
    | (have _t := s13; go_at_call 43; clear _t; go_loud (refine (bpow_any n _).mono ?_; rintro e w13 ⟨A13, c13, g13, r13, rfl, q, k13, v13, b⟩; have d13 := q.1; have s14 := s13.call b q; clear s13 b q))
    | (have _t := s14; go_at_call 44; clear _t; go_loud (refine (rbpow_any n _).mono ?_; rintro e w14 ⟨A14, c14, g14, r14, rfl, q, k14, v14, b⟩; obtain ⟨rfl, rfl⟩ := uniqI d13 q.1 k13 k14 (v13.trans v14.symm); clear k14 v14; have s15 := s14.call b q; clear s14 b q))
    | (have _t := s15; go_at_call 38; clear _t; go_loud (refine (rbsame_any g13 g13 _ _ _ _ r13 r13 _ (s15.get (by simp)) (s15.get (by simp)) (by have := len_pow k13 v13; omega)).mono ?_; rintro e w15 ⟨rfl, b⟩; rw [decide_eq_true (show g13 = g13 ∧ r13 = r13 from ⟨rfl, rfl⟩)]; have s16 := s15.step b; clear s15 b)))
  obtain ⟨x1, x2, z1, z2⟩ := s16.held2
  go_wp2_with (first
    | (have _t := s16; go_at_call 41; clear _t; go_loud (refine (rbright_any s _ _ xs _ (s16.get (by simp)) (by omega)).mono ?_; rintro e w16 ⟨rfl, b⟩; rw [HR.out]; have s17 := s16.step b; clear b s16 x1 x2 z1 z2; obtain ⟨x1, x2, z1, z2⟩ := s17.held2)))
  go_ret
  exact ⟨rfl, s17.1.1⟩

end Go.Proofs.Ythkeehfoefjnfaa
