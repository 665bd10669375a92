/-
  The reference's Shr of big numbers.
-/
import Derived.Test.YthkeehfoefjnfaaBigF
namespace Go.Proofs.Ythkeehfoefjnfaa
set_option linter.unusedVariables false
set_option linter.unusedSimpArgs false
open Go.RowKit Num

theorem Us.alloc {w : World} {A : Option Addr} {c : Nat} {xs : List Nat} (h : Us w A c xs) (o : Obj) : Us (w.alloc o) A c xs := h.below ((Below.refl _ w).alloc (Nat.le_refl _) o)
theorem len_shr {xs r : List Nat} {n : Int} {k : Nat} (hd : Dig xs) (hl : xs.length ≤ k) (hc : Canon r) (hv : val r = shrN (val xs) n) : r.length ≤ k := by
  refine len_le hc ?_
  rw [hv]
  refine Nat.lt_of_le_of_lt ?_ (Nat.lt_of_lt_of_le (val_lt hd) (Nat.pow_le_pow_right (by decide) hl))
  unfold shrN
  split
  · exact Nat.div_le_self _ _
  · omega
set_option maxRecDepth 100000 in
set_option maxHeartbeats 1600000 in
theorem rbshr_no (s : Bool) (A : Option Addr) (c m : Nat) (n : Int) (w : World) (hn : n < 0 ∨ 10000 < n) :
    Calls Try.prog 57 #[.agg #[.bool s, .slice A m c], .int .i64 n] w (RetI 0 w) := by
  obtain ⟨hX, hR, hB⟩ := box2 w (.bool s) (.slice A m c) (.bool false) (.slice none 0 0) 43
  have HR := Lib.hid hR
  have HB := Lib.hid hB
  clear hX hR hB
  go_enter Try.func57, Try.ntmps57
  rcases hn with hn | hn
  all_goals
    go_wp2_with fail
    refine bodyPost_ret (v := .agg #[.bool false, .slice none 0 0]) (by simp [results, Try.results57, go_sem]) rfl ?_
    exact ⟨none, 0, false, [], rfl, Us.nil _, ⟨canon_nil, by simp⟩, rfl, HB.out⟩

/-- The quotient towards 0. -/
def trI (s : Bool) (x : Nat) (n : Int) : Int := if s then -(shrN x n : Int) else shrN x n
theorem ival_tr (s : Bool) {xs r : List Nat} {n : Int} (h : val r = shrN (val xs) n) : ival s r = trI s (val xs) n := by
  unfold ival trI
  rw [h]
theorem floor_neg (v d : Int) (hd : 0 < d) : (-v) / d = if v % d = 0 then -(v / d) else -(v / d) - 1 := by
  have e1 := Int.emod_add_mul_ediv v d
  have h1 := Int.emod_nonneg v (show d ≠ 0 by omega)
  have h2 := Int.emod_lt_of_pos v hd
  split
  · rename_i h0
    have e : (-v) / d = (d * -(v / d)) / d := congrArg (· / d) (by rw [Int.mul_neg]; omega)
    rw [e, Int.mul_ediv_cancel_left _ (by omega)]
  · rename_i h0
    have e : (-v) / d = ((d - v % d) + d * (-(v / d) - 1)) / d := congrArg (· / d) (by rw [Int.mul_sub, Int.mul_neg, Int.mul_one]; omega)
    rw [e, Int.add_mul_ediv_left _ _ (by omega), Int.ediv_eq_zero_of_lt (by omega) (by omega), Int.zero_add]
theorem tr_more (s : Bool) (xs : List Nat) (n : Int) (hn : 0 ≤ n ∧ n ≤ 10000) (h : ival s xs < shlI (trI s (val xs) n) n) : trI s (val xs) n - 1 = shrI (ival s xs) n := by
  unfold trI ival shlI shrN shrI at *
  rw [if_pos hn] at h
  rw [if_pos hn, if_pos hn]
  have hd : (0 : Int) < 2 ^ n.toNat := Int.pow_pos (by decide)
  rw [if_pos hn] at h
  rw [show ((val xs / 2 ^ n.toNat : Nat) : Int) = (val xs : Int) / 2 ^ n.toNat from by simp] at *
  generalize (2 : Int) ^ n.toNat = d at *
  generalize (val xs : Int) = v at *
  have e1 := Int.emod_add_mul_ediv v d
  have h1 := Int.emod_nonneg v (show d ≠ 0 by omega)
  cases s
  · simp only [Bool.false_eq_true, if_false] at *
    rw [Int.mul_comm] at h
    omega
  · simp only [if_true] at *
    rw [floor_neg v d hd, if_neg]
    intro h0
    rw [Int.neg_mul, Int.mul_comm] at h
    omega
theorem tr_less (s : Bool) (xs : List Nat) (n : Int) (hn : 0 ≤ n ∧ n ≤ 10000) (h : ¬ ival s xs < shlI (trI s (val xs) n) n) : trI s (val xs) n = shrI (ival s xs) n := by
  unfold trI ival shlI shrN shrI at *
  rw [if_pos hn] at h
  rw [if_pos hn, if_pos hn]
  have hd : (0 : Int) < 2 ^ n.toNat := Int.pow_pos (by decide)
  rw [if_pos hn] at h
  rw [show ((val xs / 2 ^ n.toNat : Nat) : Int) = (val xs : Int) / 2 ^ n.toNat from by simp] at *
  generalize (2 : Int) ^ n.toNat = d at *
  generalize (val xs : Int) = v at *
  have e1 := Int.emod_add_mul_ediv v d
  have h1 := Int.emod_nonneg v (show d ≠ 0 by omega)
  cases s
  · simp only [Bool.false_eq_true, if_false] at *
  · simp only [if_true] at *
    rw [floor_neg v d hd, if_pos]
    rw [Int.neg_mul, Int.mul_comm] at h
    omega

/-- Behind 'q := ..'. -/
def ShrCut (w : World) (s : Bool) (A : Option Addr) (c m : Nat) (z : Int) (k : Nat) (s5 : Value) (wx : World) : Prop :=
  ∃ g A2 c2 s2 r2, s5 = .pointer (some ⟨g, 0, none⟩) ∧ Us wx A2 c2 r2 ∧ CanonI s2 r2 ∧ ival s2 r2 = z ∧ r2.length ≤ k ∧ Box wx g (.bool s2) (.slice A2 r2.length c2) ∧ Box wx w.heap.size (.bool s) (.slice A m c) ∧ Box wx (w.heap.size + 1) (.bool false) (.slice none 0 0) ∧ w.heap.size + 1 < g ∧ Below w.heap.size w wx

theorem Box.far {w : World} {g g' o : Nat} {x y : Value} (h : Box w g x y) (hne : g ≠ g') (v : Value) : Box (w.setCell ⟨g', o, none⟩ v) g x y := by
  obtain ⟨h1, h2, h3, h4, h5⟩ := h
  refine ⟨?_, ?_, ?_, ?_, by simpa using h5⟩
  · rw [World.cell?_setCell_other _ _ _ _ (by simp [Ne.symm hne])]; exact h1
  · rw [World.cell?_setCell_other _ _ _ _ (by simp [Ne.symm hne])]; exact h2
  · rw [World.frozen?_setCell]; exact h3
  · rw [World.frozen?_setCell]; exact h4
theorem len_same {s t : Bool} {r q : List Nat} (hd : Dig q) (hc : CanonI s r) (hv : ival s r = ival t q) : r.length ≤ q.length :=
  len_ival hc hv _ (by rw [← val_ival]; exact val_lt hd)
theorem ord_gt {a b : Int} (h : b < a) : ordI a b = 1 := by
  unfold ordI
  rw [if_neg (by omega), if_neg (by omega)]
theorem ord_le {a b : Int} (h : ¬ b < a) : ordI a b ≤ 0 := by
  unfold ordI
  split
  · decide
  · rw [if_pos (by omega)]
    decide
theorem lenI_shl {s t : Bool} {xs r : List Nat} {n : Int} {k : Nat} (hd : Dig xs) (hl : xs.length ≤ k) (hc : CanonI s r) (hv : ival s r = shlI (ival t xs) n) : r.length ≤ k + 313 := by
  obtain ⟨M, hM⟩ : ∃ M, M = 313 := ⟨_, rfl⟩
  rw [← hM]
  refine len_ival hc hv _ ?_
  have h3 := Nat.lt_of_lt_of_le (val_lt hd) (Nat.pow_le_pow_right (by decide) hl)
  rw [val_ival t xs] at h3
  rw [Nat.pow_add, pow_32 M]
  generalize (4294967296 : Nat) ^ k = P at *
  unfold shlI
  split
  · rename_i h
    have h4 : 2 ^ n.toNat ≤ 2 ^ (32 * M) := Nat.pow_le_pow_right (by decide) (by omega)
    rw [Int.natAbs_mul, Int.natAbs_pow]
    exact Nat.lt_of_le_of_lt (Nat.mul_le_mul_left _ h4) (Nat.mul_lt_mul_of_pos_right h3 (Nat.two_pow_pos _))
  · exact Nat.mul_pos (by omega) (Nat.two_pow_pos _)
theorem ShrCut.alloc {w w2 : World} {s s2 : Bool} {A A2 : Option Addr} {c c2 m k : Nat} {z : Int} {r2 : List Nat} (hb : Below w.heap.size w w2) (hX : Box w2 w.heap.size (.bool s) (.slice A m c)) (hR : Box w2 (w.heap.size + 1) (.bool false) (.slice none 0 0))
    (q2 : Us w2 A2 c2 r2) (k2 : CanonI s2 r2) (v2 : ival s2 r2 = z) (hl : r2.length ≤ k) (t : TypeId) : ShrCut w s A c m z k (.pointer (some ⟨w2.heap.size, 0, none⟩)) (w2.alloc (.cells #[.bool s2, .slice A2 r2.length c2] t)) :=
  ⟨_, A2, c2, s2, r2, rfl, q2.alloc _, k2, v2, hl, Box.new _ _ _ _, hX.alloc _, hR.alloc _, hR.2.2.2.2, hb.alloc hb.size _⟩
theorem ShrCut.set {w w2 : World} {s s2 s0 : Bool} {A A2 A0 : Option Addr} {c c2 m k g n0 c0 : Nat} {z : Int} {r2 : List Nat} (hb : Below w.heap.size w w2) (hX : Box w2 w.heap.size (.bool s) (.slice A m c)) (hR : Box w2 (w.heap.size + 1) (.bool false) (.slice none 0 0))
    (hg : w.heap.size + 1 < g) (hQ : Box w2 g (.bool s0) (.slice A0 n0 c0)) (q2 : Us w2 A2 c2 r2) (k2 : CanonI s2 r2) (v2 : ival s2 r2 = z) (hl : r2.length ≤ k) :
    ShrCut w s A c m z k (.pointer (some ⟨g, 0, none⟩)) ((w2.setCell ⟨g, 0, none⟩ (.bool s2)).setCell ⟨g, 1, none⟩ (.slice A2 r2.length c2)) :=
  ⟨g, A2, c2, s2, r2, rfl, q2.boxed hQ _ _, k2, v2, hl, hQ.set _ _, (hX.far (by omega) _).far (by omega) _, (hR.far (by omega) _).far (by omega) _, hg, (hb.setCell (p := ⟨g, 0, none⟩) (by simp; omega) _).setCell (p := ⟨g, 1, none⟩) (by simp; omega) _⟩

set_option maxRecDepth 100000 in
set_option maxHeartbeats 3200000 in
theorem rbshr_yes (s : Bool) (A : Option Addr) (c : Nat) (xs : List Nat) (n : Int) (w : World) (h : Us w A c xs) (hl : xs.length ≤ 50000) (hn : 0 ≤ n ∧ n ≤ 10000) :
    Calls Try.prog 57 #[.agg #[.bool s, .slice A xs.length c], .int .i64 n] w (RetI (shrI (ival s xs) n) w) := by
  have hcap := h.cap
  have hd := h.1
  obtain ⟨hX, hR, hB⟩ := box2 w (.bool s) (.slice A xs.length c) (.bool false) (.slice none 0 0) 43
  have HX := Lib.hid hX.drew
  have HR := Lib.hid hR.drew
  have HB := Lib.hid (Below.drew' hB)
  have H1 := Lib.hid (h.below HB.out)
  have H0 := Lib.hid h
  have HN := Lib.hid hn
  have HQ := Lib.hid (box3 w (.bool s) (.slice A xs.length c) (.bool false) (.slice none 0 0) (.bool false) (.slice none 0 0) 43).2.2.1.drew
  have H3 := Lib.hid (show Box _ w.heap.size (.bool s) (.slice A xs.length c) ∧ Box _ (w.heap.size + 1) (.bool false) (.slice none 0 0) ∧ Below w.heap.size w _ from ⟨(box3 w (.bool s) (.slice A xs.length c) (.bool false) (.slice none 0 0) (.bool false) (.slice none 0 0) 43).1.drew, (box3 w (.bool s) (.slice A xs.length c) (.bool false) (.slice none 0 0) (.bool false) (.slice none 0 0) 43).2.1.drew, Below.drew' (box3 w (.bool s) (.slice A xs.length c) (.bool false) (.slice none 0 0) (.bool false) (.slice none 0 0) 43).2.2.2⟩)
  clear h hX hR hB
  obtain ⟨n1, n2⟩ := hn
  have m1 : ¬ w.heap.size = w.heap.size + 1 + 1 := by omega
  have m2 : ¬ w.heap.size + 1 + 1 = w.heap.size := by omega
  go_enter Try.func57, Try.ntmps57
  go_upto_region 3 with fail
  go_cut [5] (fun s5 wx => ShrCut w s A c xs.length (trI s (val xs) n) 50000 s5 wx)
  case first =>
    go_region_held3 (fun w' => w'.cell? ⟨w.heap.size, 0, none⟩ = some (.bool s) ∧ w'.cell? ⟨w.heap.size, 1, none⟩ = some (.slice A xs.length c))
      (first | go_keep | fail)
      (first
        | (go_at_call 21; refine (rshr_z _ _ xs n _ (by first | exact H1.out | exact H1.out.alloc _) (by omega)).mono ?_; rintro e w1 ⟨A1, c1, r1, rfl, q1, k1, v1, b1⟩; obtain ⟨x1, x2, x3, x4, x5⟩ := (show Box w1 w.heap.size (.bool s) (.slice A xs.length c) by first | exact HX.out.below b1 | exact (HX.out.alloc _).below b1); have l1 := len_shr hd hl k1 v1)
        | (go_at_call 73; refine (rsign_any s _ _ r1 _ (by first | exact q1 | exact q1.alloc _) (by omega)).mono ?_; rintro e w2 ⟨A2, c2, s2, r2, rfl, q2, k2, v2, b2⟩; have hbx := (show Box w1 w.heap.size (.bool s) (.slice A xs.length c) from ⟨x1, x2, x3, x4, x5⟩); clear x1 x2 x3 x4 x5; obtain ⟨x1, x2, x3, x4, x5⟩ := (show Box w2 w.heap.size (.bool s) (.slice A xs.length c) by first | exact hbx.below b2 | exact (hbx.alloc _).below b2); have m3 := Nat.ne_of_lt hbx.2.2.2.2; have m4 := Nat.ne_of_lt x5; have m5 := m3.symm; have m6 := m4.symm; first | (have hq : Box w2 (w.heap.size + 1 + 1) (.bool false) (.slice none 0 0) := (HQ.out.below b1).below b2; obtain ⟨y1, y2, y3, y4, y5⟩ := hq) | (have hq : Box w2 w1.heap.size (.bool false) (.slice none 0 0) := (Box.new w1 _ _ _).below b2; obtain ⟨y1, y2, y3, y4, y5⟩ := hq) | skip))
    · go_wp2_with fail
      go_meet
      have hb1 := HB.out.trans (b1.mono HB.out.size)
      have hb2 := hb1.trans (b2.mono hb1.size)
      exact ShrCut.alloc hb2 ((HX.out.below b1).below b2) ((HR.out.below b1).below b2) q2 k2 (v2.trans (ival_tr s v1)) (Nat.le_trans (len_same q1.1 k2 v2) l1) _
    · go_wp2_with fail
      go_meet
      have hb1 := HB.out.trans (b1.mono HB.out.size)
      have hb2 := (hb1.alloc hb1.size _).trans (b2.mono (hb1.alloc hb1.size _).size)
      exact ShrCut.set hb2 (((HX.out.below b1).alloc _).below b2) (((HR.out.below b1).alloc _).below b2) (HR.out.below b1).2.2.2.2 ((Box.new w1 _ _ _).below b2) q2 k2 (v2.trans (ival_tr s v1)) (Nat.le_trans (len_same q1.1 k2 v2) l1)
    · go_wp2_with fail
      go_meet
      have hb1 := H3.out.2.2.trans (b1.mono H3.out.2.2.size)
      have hb2 := hb1.trans (b2.mono hb1.size)
      exact ShrCut.set hb2 ((H3.out.1.below b1).below b2) ((H3.out.2.1.below b1).below b2) (by omega) ((HQ.out.below b1).below b2) q2 k2 (v2.trans (ival_tr s v1)) (Nat.le_trans (len_same q1.1 k2 v2) l1)
  case rest =>
    obtain ⟨g, A2, c2, s2, r2, rfl, q2, k2, v2, l2, hQ, hX, hR, hg, hB⟩ := hcut
    clear HX HR HB H1 HQ H3 m1 m2
    have h0 := H0.out.below hB
    clear H0
    have KX := Lib.hid hX.drew
    have KR := Lib.hid hR.drew
    have KQ := Lib.hid hQ.drew
    have KB := Lib.hid (Below.drew' hB)
    have K0 := Lib.hid (h0.below (Below.drew' (Below.refl _ _)))
    have K2 := Lib.hid (q2.below (Below.drew' (Below.refl _ _)))
    have HV := Lib.hid v2
    have d2 := q2.1
    obtain ⟨x1, x2, x3, x4, x5⟩ := hX
    obtain ⟨y1, y2, y3, y4, y5⟩ := hQ
    clear hR hB v2 h0 q2
    by_cases hgt : ival s xs < shlI (trI s (val xs) n) n
    · have HO := Lib.hid (ord_gt hgt)
      have HT := Lib.hid (tr_more s xs n HN.out hgt)
      clear hgt
      go_wp2_with fail
      go_region_held3 (fun w' => w'.cell? ⟨w.heap.size, 0, none⟩ = some (.bool s) ∧ w'.cell? ⟨w.heap.size, 1, none⟩ = some (.slice A xs.length c) ∧ w'.cell? ⟨g, 0, none⟩ = some (.bool s2) ∧ w'.cell? ⟨g, 1, none⟩ = some (.slice A2 r2.length c2))
        (first | go_keep | fail)
        (first
          | (go_at_call 55; refine (rbshl_any s2 _ _ r2 n _ K2.out (by omega)).mono ?_; rintro e w3 ⟨A3, c3, s3, r3, rfl, q3, k3, v3, b3⟩; clear x1 x2 x3 x4 x5 y1 y2 y3 y4 y5; obtain ⟨x1, x2, x3, x4, x5⟩ := KX.out.below b3; obtain ⟨y1, y2, y3, y4, y5⟩ := KQ.out.below b3; have l3 := lenI_shl d2 l2 k3 v3)
          | (go_at_call 53; refine (rbcmp_any s3 s _ _ _ _ r3 xs _ q3 (K0.out.below b3) (by omega) (by omega)).mono ?_; rintro e w4 ⟨rfl, b4⟩; rw [v3, HV.out, HO.out]; clear x1 x2 x3 x4 x5 y1 y2 y3 y4 y5; obtain ⟨x1, x2, x3, x4, x5⟩ := (KX.out.below b3).below b4; obtain ⟨y1, y2, y3, y4, y5⟩ := (KQ.out.below b3).below b4))
      have J2 := Lib.hid (((K2.out.below b3).below b4).below (Below.drew' (Below.refl _ _)))
      have JQ := Lib.hid ((KQ.out.below b3).below b4).drew
      have JR := Lib.hid ((KR.out.below b3).below b4).drew
      have hb3 := KB.out.trans (b3.mono KB.out.size)
      have JB := Lib.hid (Below.drew' (hb3.trans (b4.mono hb3.size)))
      clear K2 KQ KR KB K0 KX hb3 b3 b4 q3 x1 x2 x3 x4 x5 v3
      go_wp2_with fail
      go_region_held3 (fun w' => w'.cell? ⟨g, 0, none⟩ = some (.bool s2) ∧ w'.cell? ⟨g, 1, none⟩ = some (.slice A2 r2.length c2))
        (first | go_keep | fail)
        (first
          | (go_at_call 39; refine (rbof_any 1 _ (by decide) (by decide)).mono ?_; rintro e w5 ⟨A5, c5, s5, r5, rfl, q5, k5, v5, b5⟩; clear y1 y2 y3 y4 y5; obtain ⟨y1, y2, y3, y4, y5⟩ := JQ.out.below b5; have l5 : r5.length ≤ 1 := len_ival k5 v5 1 (by decide))
          | (go_at_call 49; refine (rbsub_any s2 s5 _ _ _ _ r2 r5 _ (J2.out.below b5) q5 (by omega) (by omega)).mono ?_; rintro e w6 ⟨A6, c6, s6, r6, rfl, q6, k6, v6, b6⟩; clear y1 y2 y3 y4 y5; obtain ⟨y1, y2, y3, y4, y5⟩ := (JQ.out.below b5).below b6; obtain ⟨z1, z2, z3, z4, z5⟩ := (JR.out.below b5).below b6; have m1 : ¬ g = w.heap.size + 1 := (by omega); have m2 : ¬ w.heap.size + 1 = g := (by omega)))
      go_wp2
      obtain ⟨e1, e2, _, _, _⟩ := (((JR.out.below b5).below b6).set (.bool s6) (.slice A6 r6.length c6))
      refine bodyPost_ret (v := .agg #[.bool s6, .slice A6 r6.length c6]) (by simp [results, Try.results57, go_sem, e1, e2]) rfl ?_
      have hb5 := JB.out.trans (b5.mono JB.out.size)
      exact RetI.box (by omega) ((JR.out.below b5).below b6) q6 k6 (by rw [v6, v5, HV.out, HT.out]) (hb5.trans (b6.mono hb5.size))
    · have ho := ord_le hgt
      have HT := Lib.hid (tr_less s xs n HN.out hgt)
      clear hgt
      obtain ⟨o, hoo⟩ : ∃ o, o = ordI (shlI (trI s (val xs) n) n) (ival s xs) := ⟨_, rfl⟩
      rw [← hoo] at ho
      have HO := Lib.hid hoo
      clear hoo
      go_wp2_with fail
      go_region_held3 (fun w' => w'.cell? ⟨w.heap.size, 0, none⟩ = some (.bool s) ∧ w'.cell? ⟨w.heap.size, 1, none⟩ = some (.slice A xs.length c) ∧ w'.cell? ⟨g, 0, none⟩ = some (.bool s2) ∧ w'.cell? ⟨g, 1, none⟩ = some (.slice A2 r2.length c2))
        (first | go_keep | fail)
        (first
          | (go_at_call 55; refine (rbshl_any s2 _ _ r2 n _ K2.out (by omega)).mono ?_; rintro e w3 ⟨A3, c3, s3, r3, rfl, q3, k3, v3, b3⟩; clear x1 x2 x3 x4 x5 y1 y2 y3 y4 y5; obtain ⟨x1, x2, x3, x4, x5⟩ := KX.out.below b3; obtain ⟨y1, y2, y3, y4, y5⟩ := KQ.out.below b3; have l3 := lenI_shl d2 l2 k3 v3)
          | (go_at_call 53; refine (rbcmp_any s3 s _ _ _ _ r3 xs _ q3 (K0.out.below b3) (by omega) (by omega)).mono ?_; rintro e w4 ⟨rfl, b4⟩; rw [v3, HV.out, ← HO.out]; clear x1 x2 x3 x4 x5 y1 y2 y3 y4 y5; obtain ⟨x1, x2, x3, x4, x5⟩ := (KX.out.below b3).below b4; obtain ⟨y1, y2, y3, y4, y5⟩ := (KQ.out.below b3).below b4))
      have J2 := Lib.hid ((K2.out.below b3).below b4)
      have JR := Lib.hid ((KR.out.below b3).below b4)
      have hb3 := KB.out.trans (b3.mono KB.out.size)
      have JB := Lib.hid (hb3.trans (b4.mono hb3.size))
      obtain ⟨z1, z2, z3, z4, z5⟩ := (KR.out.below b3).below b4
      clear K2 KQ KR KB K0 KX hb3 b3 b4 q3 x1 x2 x3 x4 x5 v3
      go_wp2
      obtain ⟨e1, e2, _, _, _⟩ := (JR.out.set (.bool s2) (.slice A2 r2.length c2))
      refine bodyPost_ret (v := .agg #[.bool s2, .slice A2 r2.length c2]) (by simp [results, Try.results57, go_sem, e1, e2]) rfl ?_
      exact RetI.box (by omega) JR.out J2.out k2 (by rw [HV.out, HT.out]) JB.out

theorem rbshr_any (s : Bool) (A : Option Addr) (c : Nat) (xs : List Nat) (n : Int) (w : World) (h : Us w A c xs) (hl : xs.length ≤ 50000) :
    Calls Try.prog 57 #[.agg #[.bool s, .slice A xs.length c], .int .i64 n] w (RetI (shrI (ival s xs) n) w) := by
  by_cases hn : 0 ≤ n ∧ n ≤ 10000
  · exact rbshr_yes s A c xs n w h hl hn
  · rw [shrI_no _ _ hn]
    exact rbshr_no s A c xs.length n w (by omega)

end Go.Proofs.Ythkeehfoefjnfaa
