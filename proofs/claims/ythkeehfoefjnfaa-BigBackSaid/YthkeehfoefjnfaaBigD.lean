/-
  big: Sub, Pow, Cmp of the program and of the reference; fromMinusOne.
-/
import Derived.Test.YthkeehfoefjnfaaBigC
namespace Go.Proofs.Ythkeehfoefjnfaa
set_option linter.unusedVariables false
set_option linter.unusedSimpArgs false
open Go.RowKit Num

theorem val_ival (s : Bool) (r : List Nat) : val r = (ival s r).natAbs := by
  unfold ival
  cases s <;> simp
theorem len_ival {s : Bool} {r : List Nat} {n : Int} (hc : CanonI s r) (hv : ival s r = n) (k : Nat) (hn : n.natAbs < 4294967296 ^ k) : r.length ≤ k :=
  len_le hc.1 (by rw [val_ival s r, hv]; exact hn)
theorem abs_of_len {s : Bool} {xs : List Nat} (hd : Dig xs) {k : Nat} (hl : xs.length ≤ k) : (ival s xs).natAbs < 4294967296 ^ k := by
  rw [← val_ival]
  exact Nat.lt_of_lt_of_le (val_lt hd) (Nat.pow_le_pow_right (by decide) hl)
theorem abs_add {a b : Int} {k : Nat} (ha : a.natAbs < 4294967296 ^ k) (hb : b.natAbs < 4294967296 ^ k) : (a + b).natAbs < 4294967296 ^ (k + 1) := by
  rw [Nat.pow_succ]
  omega
theorem abs_up {a : Int} {k m : Nat} (ha : a.natAbs < 4294967296 ^ k) (h : k ≤ m) : a.natAbs < 4294967296 ^ m := Nat.lt_of_lt_of_le ha (Nat.pow_le_pow_right (by decide) h)
theorem CanonI.plus {s : Bool} {r : List Nat} (h : CanonI s r) (hv : 0 ≤ ival s r) : s = false := by
  cases s
  · rfl
  · unfold ival at hv
    simp at hv
    exact absurd (canon_zero h.1 (by omega)) (h.2 rfl)
theorem CanonI.minus {s : Bool} {r : List Nat} (h : CanonI s r) (hv : ival s r < 0) : s = true := by
  cases s
  · unfold ival at hv
    simp at hv
    omega
  · rfl
theorem len_neg {s t : Bool} {r ys : List Nat} (kd : Dig ys) (hc : CanonI s r) (hv : ival s r = -ival t ys) : r.length ≤ ys.length :=
  len_ival hc hv _ (by rw [Int.natAbs_neg, ← val_ival]; exact val_lt kd)
theorem ret_int {k : IntKind} {a b : Int} (h : a = b) : Ending.returned (.int k a) = .returned (.int k b) := by rw [h]
def ordI (a b : Int) : Int := if a < b then -1 else if a = b then 0 else 1

set_option maxRecDepth 100000 in
set_option maxHeartbeats 1600000 in
theorem bsub_any (s t : Bool) (A B : Option Addr) (c d : Nat) (xs ys : List Nat) (w : World) (h : Us w A c xs) (k : Us w B d ys) (hl : xs.length ≤ 60000) (kl : ys.length ≤ 60000) :
    Calls Try.prog 48 #[.agg #[.bool s, .slice A xs.length c], .agg #[.bool t, .slice B ys.length d]] w (RetI (ival s xs - ival t ys) w) := by
  have hcap := h.cap
  have kcap := k.cap
  obtain ⟨hX, hY, hR, hB⟩ := box3 w (.bool s) (.slice A xs.length c) (.bool t) (.slice B ys.length d) (.bool false) (.slice none 0 0) 43
  have HX := Lib.hid hX.drew
  have HY := Lib.hid hY.drew
  have HR := Lib.hid hR.drew
  have HB := Lib.hid (Below.drew' hB)
  have H1 := Lib.hid (h.below HB.out)
  have H2 := Lib.hid (k.below HB.out)
  have kd := k.1
  clear h k hX hY hR hB
  have n1 : ¬ w.heap.size = w.heap.size + 1 + 1 := by omega
  have n2 : ¬ w.heap.size + 1 + 1 = w.heap.size := by omega
  go_enter Try.func48, Try.ntmps48
  go_wp2_with fail
  go_region_held3 (fun w' => w'.cell? ⟨w.heap.size, 0, none⟩ = some (.bool s) ∧ w'.cell? ⟨w.heap.size, 1, none⟩ = some (.slice A xs.length c) ∧ w'.cell? ⟨w.heap.size + 1, 0, none⟩ = some (.bool t) ∧ w'.cell? ⟨w.heap.size + 1, 1, none⟩ = some (.slice B ys.length d))
    (first | go_keep | fail)
    (first
      | (go_at_call 50; refine (minus_any t _ _ ys _ H2.out (by omega)).mono ?_; rintro e w1 ⟨A1, c1, s1, r1, rfl, q1, k1, v1, b1⟩; obtain ⟨x1, x2, _, _, _⟩ := HX.out.below b1; obtain ⟨z1, z2, _, _, _⟩ := HY.out.below b1; have l1 : r1.length ≤ 60000 := Nat.le_trans (len_neg kd k1 v1) kl)
      | (go_at_call 46; refine (badd_any s s1 _ _ _ _ xs r1 _ (H1.out.below b1) q1 hl l1).mono ?_; rintro e w2 ⟨A2, c2, s2, r2, rfl, q2, k2, v2, b2⟩; obtain ⟨x1, x2, _, _, _⟩ := (HX.out.below b1).below b2; obtain ⟨z1, z2, _, _, _⟩ := (HY.out.below b1).below b2; obtain ⟨y1, y2, y3, y4, _⟩ := (HR.out.below b1).below b2))
  go_wp2
  obtain ⟨e1, e2, _, _, _⟩ := (((HR.out.below b1).below b2).set (.bool s2) (.slice A2 r2.length c2))
  refine bodyPost_ret (v := .agg #[.bool s2, .slice A2 r2.length c2]) (by simp [results, Try.results48, go_sem, e1, e2]) rfl ?_
  exact RetI.box (by omega) ((HR.out.below b1).below b2) q2 k2 (by rw [v2, v1, Int.sub_eq_add_neg]) ((HB.out.trans (b1.mono HB.out.size)).trans (b2.mono (HB.out.trans (b1.mono HB.out.size)).size))

set_option maxRecDepth 100000 in
set_option maxHeartbeats 1600000 in
theorem rbsub_any (s t : Bool) (A B : Option Addr) (c d : Nat) (xs ys : List Nat) (w : World) (h : Us w A c xs) (k : Us w B d ys) (hl : xs.length ≤ 60000) (kl : ys.length ≤ 60000) :
    Calls Try.prog 49 #[.agg #[.bool s, .slice A xs.length c], .agg #[.bool t, .slice B ys.length d]] w (RetI (ival s xs - ival t ys) w) := by
  have hcap := h.cap
  have kcap := k.cap
  obtain ⟨hX, hY, hR, hB⟩ := box3 w (.bool s) (.slice A xs.length c) (.bool t) (.slice B ys.length d) (.bool false) (.slice none 0 0) 43
  have HX := Lib.hid hX.drew
  have HY := Lib.hid hY.drew
  have HR := Lib.hid hR.drew
  have HB := Lib.hid (Below.drew' hB)
  have H1 := Lib.hid (h.below HB.out)
  have H2 := Lib.hid (k.below HB.out)
  have kd := k.1
  clear h k hX hY hR hB
  have n1 : ¬ w.heap.size = w.heap.size + 1 + 1 := by omega
  have n2 : ¬ w.heap.size + 1 + 1 = w.heap.size := by omega
  go_enter Try.func49, Try.ntmps49
  go_wp2_with fail
  go_region_held3 (fun w' => w'.cell? ⟨w.heap.size, 0, none⟩ = some (.bool s) ∧ w'.cell? ⟨w.heap.size, 1, none⟩ = some (.slice A xs.length c) ∧ w'.cell? ⟨w.heap.size + 1, 0, none⟩ = some (.bool t) ∧ w'.cell? ⟨w.heap.size + 1, 1, none⟩ = some (.slice B ys.length d))
    (first | go_keep | fail)
    (first
      | (go_at_call 51; refine (rminus_any t _ _ ys _ H2.out (by omega)).mono ?_; rintro e w1 ⟨A1, c1, s1, r1, rfl, q1, k1, v1, b1⟩; obtain ⟨x1, x2, _, _, _⟩ := HX.out.below b1; obtain ⟨z1, z2, _, _, _⟩ := HY.out.below b1; have l1 : r1.length ≤ 60000 := Nat.le_trans (len_neg kd k1 v1) kl)
      | (go_at_call 47; refine (rbadd_any s s1 _ _ _ _ xs r1 _ (H1.out.below b1) q1 hl l1).mono ?_; rintro e w2 ⟨A2, c2, s2, r2, rfl, q2, k2, v2, b2⟩; obtain ⟨x1, x2, _, _, _⟩ := (HX.out.below b1).below b2; obtain ⟨z1, z2, _, _, _⟩ := (HY.out.below b1).below b2; obtain ⟨y1, y2, y3, y4, _⟩ := (HR.out.below b1).below b2))
  go_wp2
  obtain ⟨e1, e2, _, _, _⟩ := (((HR.out.below b1).below b2).set (.bool s2) (.slice A2 r2.length c2))
  refine bodyPost_ret (v := .agg #[.bool s2, .slice A2 r2.length c2]) (by simp [results, Try.results49, go_sem, e1, e2]) rfl ?_
  exact RetI.box (by omega) ((HR.out.below b1).below b2) q2 k2 (by rw [v2, v1, Int.sub_eq_add_neg]) ((HB.out.trans (b1.mono HB.out.size)).trans (b2.mono (HB.out.trans (b1.mono HB.out.size)).size))

set_option maxRecDepth 100000 in
set_option maxHeartbeats 1600000 in
theorem bpow_any (n : Int) (w : World) :
    Calls Try.prog 43 #[.int .i64 n] w (RetI (shlI 1 n) w) := by
  obtain ⟨hR, hB⟩ := box1 w (.bool false) (.slice none 0 0) 43
  have HR := Lib.hid hR
  have HB := Lib.hid hB
  clear hR hB
  go_enter Try.func43, Try.ntmps43
  go_wp2_with (first
    | (go_at_call 37; refine (bof_any 1 _ (by decide) (by decide)).mono ?_; rintro e w1 ⟨A1, c1, s1, r1, rfl, q1, k1, v1, b1⟩; have l1 : r1.length ≤ 1 := len_ival k1 v1 1 (by decide); have HV := Lib.hid v1; clear v1)
    | (go_at_call 54; refine (bshl_any s1 _ _ r1 n _ q1 (by omega)).mono ?_; rintro e w2 ⟨A2, c2, s2, r2, rfl, q2, k2, v2, b2⟩; obtain ⟨y1, y2, y3, y4, _⟩ := (HR.out.below b1).below b2; have HV2 := Lib.hid v2; clear v2))
  obtain ⟨e1, e2, _, _, _⟩ := (((HR.out.below b1).below b2).set (.bool s2) (.slice A2 r2.length c2))
  refine bodyPost_ret (v := .agg #[.bool s2, .slice A2 r2.length c2]) (by simp [results, Try.results43, go_sem, e1, e2]) rfl ?_
  exact RetI.box (by omega) ((HR.out.below b1).below b2) q2 k2 (by rw [HV2.out, HV.out]) ((HB.out.trans (b1.mono HB.out.size)).trans (b2.mono (HB.out.trans (b1.mono HB.out.size)).size))

set_option maxRecDepth 100000 in
set_option maxHeartbeats 1600000 in
theorem rbpow_any (n : Int) (w : World) :
    Calls Try.prog 44 #[.int .i64 n] w (RetI (shlI 1 n) w) := by
  obtain ⟨hR, hB⟩ := box1 w (.bool false) (.slice none 0 0) 43
  have HR := Lib.hid hR
  have HB := Lib.hid hB
  clear hR hB
  go_enter Try.func44, Try.ntmps44
  go_wp2_with (first
    | (go_at_call 39; refine (rbof_any 1 _ (by decide) (by decide)).mono ?_; rintro e w1 ⟨A1, c1, s1, r1, rfl, q1, k1, v1, b1⟩; have l1 : r1.length ≤ 1 := len_ival k1 v1 1 (by decide); have HV := Lib.hid v1; clear v1)
    | (go_at_call 55; refine (rbshl_any s1 _ _ r1 n _ q1 (by omega)).mono ?_; rintro e w2 ⟨A2, c2, s2, r2, rfl, q2, k2, v2, b2⟩; obtain ⟨y1, y2, y3, y4, _⟩ := (HR.out.below b1).below b2; have HV2 := Lib.hid v2; clear v2))
  obtain ⟨e1, e2, _, _, _⟩ := (((HR.out.below b1).below b2).set (.bool s2) (.slice A2 r2.length c2))
  refine bodyPost_ret (v := .agg #[.bool s2, .slice A2 r2.length c2]) (by simp [results, Try.results44, go_sem, e1, e2]) rfl ?_
  exact RetI.box (by omega) ((HR.out.below b1).below b2) q2 k2 (by rw [HV2.out, HV.out]) ((HB.out.trans (b1.mono HB.out.size)).trans (b2.mono (HB.out.trans (b1.mono HB.out.size)).size))

set_option maxRecDepth 100000 in
set_option maxHeartbeats 1600000 in
theorem bfrom_any (s : Bool) (A : Option Addr) (c : Nat) (xs : List Nat) (w : World) (h : Us w A c xs) (hl : xs.length ≤ 60000) :
    Calls Try.prog 75 #[.agg #[.bool s, .slice A xs.length c]] w (RetI (-1 - ival s xs) w) := by
  have hcap := h.cap
  obtain ⟨hX, hR, hB⟩ := box2 w (.bool s) (.slice A xs.length c) (.bool false) (.slice none 0 0) 43
  have HX := Lib.hid hX.drew
  have HR := Lib.hid hR.drew
  have HB := Lib.hid (Below.drew' hB)
  have H1 := Lib.hid (h.below HB.out)
  clear h hX hR hB
  go_enter Try.func75, Try.ntmps75
  go_wp2_with fail
  go_region_held3 (fun w' => w'.cell? ⟨w.heap.size, 0, none⟩ = some (.bool s) ∧ w'.cell? ⟨w.heap.size, 1, none⟩ = some (.slice A xs.length c))
    (first | go_keep | fail)
    (first
      | (go_at_call 37; refine (bof_any (-1) _ (by decide) (by decide)).mono ?_; rintro e w1 ⟨A1, c1, s1, r1, rfl, q1, k1, v1, b1⟩; obtain ⟨x1, x2, _, _, _⟩ := HX.out.below b1; have l1 : r1.length ≤ 1 := len_ival k1 v1 1 (by decide))
      | (go_at_call 48; refine (bsub_any s1 s _ _ _ _ r1 xs _ q1 (H1.out.below b1) (by omega) hl).mono ?_; rintro e w2 ⟨A2, c2, s2, r2, rfl, q2, k2, v2, b2⟩; obtain ⟨x1, x2, _, _, _⟩ := (HX.out.below b1).below b2; obtain ⟨y1, y2, y3, y4, _⟩ := (HR.out.below b1).below b2))
  go_wp2
  obtain ⟨e1, e2, _, _, _⟩ := (((HR.out.below b1).below b2).set (.bool s2) (.slice A2 r2.length c2))
  refine bodyPost_ret (v := .agg #[.bool s2, .slice A2 r2.length c2]) (by simp [results, Try.results75, go_sem, e1, e2]) rfl ?_
  exact RetI.box (by omega) ((HR.out.below b1).below b2) q2 k2 (by rw [v2, v1]) ((HB.out.trans (b1.mono HB.out.size)).trans (b2.mono (HB.out.trans (b1.mono HB.out.size)).size))

theorem ord_of {s : Bool} {r : List Nat} {a b : Int} (hc : CanonI s r) (hv : ival s r = a - b) :
    (r.length = 0 → ordI a b = 0) ∧ (r.length ≠ 0 → s = true → ordI a b = -1) ∧ (r.length ≠ 0 → s = false → ordI a b = 1) := by
  refine ⟨fun h => ?_, fun h hs => ?_, fun h hs => ?_⟩
  · obtain rfl := List.eq_nil_of_length_eq_zero h
    rw [ival_nil] at hv
    unfold ordI
    rw [if_neg (by omega), if_pos (by omega)]
  · subst hs
    have : val r ≠ 0 := fun e => hc.2 rfl (canon_zero hc.1 e)
    unfold ival at hv
    simp only [if_true] at hv
    unfold ordI
    rw [if_pos (by omega)]
  · subst hs
    have : val r ≠ 0 := fun e => h (by rw [canon_zero hc.1 e]; rfl)
    unfold ival at hv
    simp only [Bool.false_eq_true, if_false] at hv
    unfold ordI
    rw [if_neg (by omega), if_neg (by omega)]
theorem cmp_nn {xs ys : List Nat} : cmpN (val ys) (val xs) = ordI (ival true xs) (ival true ys) := by
  unfold cmpN ordI ival
  simp only [if_true]
  split <;> split <;> (try split) <;> (try split) <;> omega
theorem cmp_pp {xs ys : List Nat} : cmpN (val xs) (val ys) = ordI (ival false xs) (ival false ys) := by
  unfold cmpN ordI ival
  simp only [Bool.false_eq_true, if_false]
  split <;> split <;> (try split) <;> (try split) <;> omega

set_option maxRecDepth 100000 in
set_option maxHeartbeats 1600000 in
theorem bcmp_any (s t : Bool) (A B : Option Addr) (c d : Nat) (xs ys : List Nat) (w : World) (h : Us w A c xs) (k : Us w B d ys) (hl : xs.length ≤ 60000) (kl : ys.length ≤ 60000) (hc : CanonI s xs) (kc : CanonI t ys) :
    Calls Try.prog 52 #[.agg #[.bool s, .slice A xs.length c], .agg #[.bool t, .slice B ys.length d]] w fun e w' => e = .returned (.int .i64 (ordI (ival s xs) (ival t ys))) ∧ Below w.heap.size w w' := by
  have hcap := h.cap
  have kcap := k.cap
  obtain ⟨hX, hY, hB⟩ := box2 w (.bool s) (.slice A xs.length c) (.bool t) (.slice B ys.length d) 43
  have HB := Lib.hid hB
  have H1 := Lib.hid (h.below HB.out)
  have H2 := Lib.hid (k.below HB.out)
  obtain ⟨z, hz⟩ : ∃ z, z = ordI (ival s xs) (ival t ys) := ⟨_, rfl⟩
  rw [← hz]
  have HZ := Lib.hid hz
  clear h k hX hY hB hz
  cases s <;> cases t
  · go_enter Try.func52, Try.ntmps52
    go_wp2_with (go_at_call 16; refine (cmp_any _ _ _ _ xs ys _ H1.out H2.out (by omega) (by omega)).mono ?_; rintro e w1 ⟨rfl, b⟩; rw [cmp_pp, ← HZ.out])
    go_ret
    exact ⟨rfl, HB.out.trans (b.mono HB.out.size)⟩
  · go_enter Try.func52, Try.ntmps52
    go_wp2_with fail
    go_ret
    refine ⟨ret_int ?_, HB.out⟩
    rw [HZ.out]
    have := kc.2 rfl
    have h2 : val ys ≠ 0 := fun e => this (canon_zero kc.1 e)
    unfold ordI ival
    simp only [if_true, Bool.false_eq_true, if_false]
    rw [if_neg (by omega), if_neg (by omega)]
  · go_enter Try.func52, Try.ntmps52
    go_wp2_with fail
    go_ret
    refine ⟨ret_int ?_, HB.out⟩
    rw [HZ.out]
    have := hc.2 rfl
    have h2 : val xs ≠ 0 := fun e => this (canon_zero hc.1 e)
    unfold ordI ival
    simp only [if_true, Bool.false_eq_true, if_false]
    rw [if_pos (by omega)]
  · go_enter Try.func52, Try.ntmps52
    go_wp2_with (go_at_call 16; refine (cmp_any _ _ _ _ ys xs _ H2.out H1.out (by omega) (by omega)).mono ?_; rintro e w1 ⟨rfl, b⟩; rw [cmp_nn, ← HZ.out])
    go_ret
    exact ⟨rfl, HB.out.trans (b.mono HB.out.size)⟩

set_option maxRecDepth 100000 in
set_option maxHeartbeats 1600000 in
theorem rbcmp_any (s t : Bool) (A B : Option Addr) (c d : Nat) (xs ys : List Nat) (w : World) (h : Us w A c xs) (k : Us w B d ys) (hl : xs.length ≤ 60000) (kl : ys.length ≤ 60000) :
    Calls Try.prog 53 #[.agg #[.bool s, .slice A xs.length c], .agg #[.bool t, .slice B ys.length d]] w fun e w' => e = .returned (.int .i64 (ordI (ival s xs) (ival t ys))) ∧ Below w.heap.size w w' := by
  have hcap := h.cap
  have kcap := k.cap
  obtain ⟨hX, hY, hB⟩ := box2 w (.bool s) (.slice A xs.length c) (.bool t) (.slice B ys.length d) 43
  have HB := Lib.hid hB
  have H1 := Lib.hid (h.below HB.out)
  have H2 := Lib.hid (k.below HB.out)
  obtain ⟨z, hz⟩ : ∃ z, z = ordI (ival s xs) (ival t ys) := ⟨_, rfl⟩
  rw [← hz]
  have HZ := Lib.hid hz
  clear h k hX hY hB hz
  go_enter Try.func53, Try.ntmps53
  go_wp2_with (go_at_call 49; refine (rbsub_any s t _ _ _ _ xs ys _ H1.out H2.out hl kl).mono ?_; rintro e w1 ⟨A1, c1, s1, r1, rfl, q1, k1, v1, b1⟩; have HV := Lib.hid v1; have rcap := q1.cap; clear v1)
  · go_ret
    have h0 : ((r1.length : Int) == 0) = true := by assumption
    exact ⟨ret_int (by rw [HZ.out]; exact ((ord_of k1 HV.out).1 (by rw [beq_iff_eq] at h0; omega)).symm), (HB.out.trans (b1.mono HB.out.size)).alloc (Nat.le_trans HB.out.size b1.size) _⟩
  · go_ret
    have h0 : ((r1.length : Int) == 0) = false := by assumption
    have h1 : s1 = true := by assumption
    exact ⟨ret_int (by rw [HZ.out]; exact ((ord_of k1 HV.out).2.1 (by rw [beq_eq_false_iff_ne] at h0; omega) h1).symm), (HB.out.trans (b1.mono HB.out.size)).alloc (Nat.le_trans HB.out.size b1.size) _⟩
  · go_ret
    have h0 : ((r1.length : Int) == 0) = false := by assumption
    have h1 : s1 = false := by assumption
    exact ⟨ret_int (by rw [HZ.out]; exact ((ord_of k1 HV.out).2.2 (by rw [beq_eq_false_iff_ne] at h0; omega) h1).symm), (HB.out.trans (b1.mono HB.out.size)).alloc (Nat.le_trans HB.out.size b1.size) _⟩

end Go.Proofs.Ythkeehfoefjnfaa
