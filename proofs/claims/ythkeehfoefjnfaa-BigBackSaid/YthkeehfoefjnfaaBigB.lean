/-
  big: Minus, Shl, Add of the program and of the reference.
-/
import Derived.Test.YthkeehfoefjnfaaBig
namespace Go.Proofs.Ythkeehfoefjnfaa
set_option linter.unusedVariables false
set_option linter.unusedSimpArgs false
open Go.RowKit Num

def shlI (x : Int) (n : Int) : Int := if 0 ≤ n ∧ n ≤ 10000 then x * 2 ^ n.toNat else 0
theorem ival_shl (s : Bool) {xs r : List Nat} {n : Int} (h : val r = shlN (val xs) n) : ival s r = shlI (ival s xs) n := by
  unfold ival shlI
  rw [h]
  unfold shlN
  by_cases hn : 0 ≤ n ∧ n ≤ 10000
  · rw [if_pos hn, if_pos hn]
    cases s <;> simp [Int.neg_mul]
  · rw [if_neg hn, if_neg hn]
    cases s <;> rfl
theorem len_shl {xs r : List Nat} {n : Int} (hd : Dig xs) (hl : xs.length ≤ 60000) (hc : Canon r) (hv : val r = shlN (val xs) n) : r.length ≤ 60313 := by
  obtain ⟨K, hK⟩ : ∃ K, K = 60000 := ⟨_, rfl⟩
  obtain ⟨M, hM⟩ : ∃ M, M = 313 := ⟨_, rfl⟩
  rw [← hK] at hl
  have h3 := Nat.lt_of_lt_of_le (val_lt hd) (Nat.pow_le_pow_right (by decide) hl)
  have h5 : r.length ≤ K + M := by
    refine len_le hc ?_
    rw [hv, Nat.pow_add, pow_32 M]
    generalize (4294967296 : Nat) ^ K = P at *
    unfold shlN
    split
    · rename_i h
      have h4 : 2 ^ n.toNat ≤ 2 ^ (32 * M) := Nat.pow_le_pow_right (by decide) (by omega)
      exact Nat.lt_of_le_of_lt (Nat.mul_le_mul_left _ h4) (Nat.mul_lt_mul_of_pos_right h3 (Nat.two_pow_pos _))
    · exact Nat.mul_pos (by omega) (Nat.two_pow_pos _)
  omega
theorem ival_neg (s : Bool) {xs r : List Nat} (h : val r = val xs) : ival (!s) r = -ival s xs := by
  unfold ival
  rw [h]
  cases s <;> simp

set_option maxRecDepth 100000 in
set_option maxHeartbeats 1600000 in
theorem rminus_any (s : Bool) (A : Option Addr) (c : Nat) (xs : List Nat) (w : World) (h : Us w A c xs) (hl : xs.length ≤ 100000) :
    Calls Try.prog 51 #[.agg #[.bool s, .slice A xs.length c]] w (RetI (-ival s xs) w) := by
  have hcap := h.cap
  obtain ⟨hX, hR, hB⟩ := box2 w (.bool s) (.slice A xs.length c) (.bool false) (.slice none 0 0) 43
  have HR := Lib.hid hR
  have HB := Lib.hid hB
  have H1 := Lib.hid (h.below HB.out)
  clear h hX hR hB
  go_enter Try.func51, Try.ntmps51
  go_wp2_with (go_at_call 73; refine (rsign_any (!s) _ _ xs _ H1.out hl).mono ?_; rintro e w2 ⟨A2, c2, s2, r2, rfl, q2, k2, v2, b2⟩; obtain ⟨y1, y2, y3, y4, _⟩ := HR.out.below b2)
  obtain ⟨e1, e2, _, _, _⟩ := (HR.out.below b2).set (.bool s2) (.slice A2 r2.length c2)
  refine bodyPost_ret (v := .agg #[.bool s2, .slice A2 r2.length c2]) (by simp [results, Try.results51, go_sem, e1, e2]) rfl ?_
  exact RetI.box (by omega) (HR.out.below b2) q2 k2 (v2.trans (ival_neg s rfl)) (HB.out.trans (b2.mono HB.out.size))

set_option maxRecDepth 100000 in
set_option maxHeartbeats 1600000 in
theorem bshl_any (s : Bool) (A : Option Addr) (c : Nat) (xs : List Nat) (n : Int) (w : World) (h : Us w A c xs) (hl : xs.length ≤ 100000) :
    Calls Try.prog 54 #[.agg #[.bool s, .slice A xs.length c], .int .i64 n] w (RetI (shlI (ival s xs) n) w) := by
  have hcap := h.cap
  obtain ⟨hX, hR, hB⟩ := box2 w (.bool s) (.slice A xs.length c) (.bool false) (.slice none 0 0) 43
  have HX := Lib.hid hX.drew
  have HR := Lib.hid hR.drew
  have HB := Lib.hid (Below.drew' hB)
  have H1 := Lib.hid (h.below HB.out)
  clear h hX hR hB
  go_enter Try.func54, Try.ntmps54
  go_wp2_with fail
  go_region_held3 (fun w' => w'.cell? ⟨w.heap.size, 0, none⟩ = some (.bool s) ∧ w'.cell? ⟨w.heap.size, 1, none⟩ = some (.slice A xs.length c))
    (first | go_keep | fail)
    (first
      | (go_at_call 18; refine (shl_z _ _ xs n _ H1.out (by omega)).mono ?_; rintro e w1 ⟨A1, c1, r1, rfl, q1, k1, v1, b1⟩; obtain ⟨x1, x2, _, _, _⟩ := HX.out.below b1)
      | (go_at_call 72; refine (signed_any s _ _ r1 _ q1 k1).mono ?_; rintro e w2 ⟨A2, c2, s2, r2, rfl, q2, k2, v2, b2⟩; obtain ⟨x1, x2, _, _, _⟩ := (HX.out.below b1).below b2; obtain ⟨y1, y2, y3, y4, _⟩ := (HR.out.below b1).below b2))
  go_wp2
  obtain ⟨e1, e2, _, _, _⟩ := (((HR.out.below b1).below b2).set (.bool s2) (.slice A2 r2.length c2))
  refine bodyPost_ret (v := .agg #[.bool s2, .slice A2 r2.length c2]) (by simp [results, Try.results54, go_sem, e1, e2]) rfl ?_
  exact RetI.box (by omega) ((HR.out.below b1).below b2) q2 k2 (v2.trans (ival_shl s v1)) ((HB.out.trans (b1.mono HB.out.size)).trans (b2.mono (HB.out.trans (b1.mono HB.out.size)).size))

set_option maxRecDepth 100000 in
set_option maxHeartbeats 1600000 in
theorem rbshl_any (s : Bool) (A : Option Addr) (c : Nat) (xs : List Nat) (n : Int) (w : World) (h : Us w A c xs) (hl : xs.length ≤ 60000) :
    Calls Try.prog 55 #[.agg #[.bool s, .slice A xs.length c], .int .i64 n] w (RetI (shlI (ival s xs) n) w) := by
  have hcap := h.cap
  obtain ⟨hX, hR, hB⟩ := box2 w (.bool s) (.slice A xs.length c) (.bool false) (.slice none 0 0) 43
  have HX := Lib.hid hX.drew
  have HR := Lib.hid hR.drew
  have HB := Lib.hid (Below.drew' hB)
  have hd := h.1
  have H1 := Lib.hid (h.below HB.out)
  clear h hX hR hB
  go_enter Try.func55, Try.ntmps55
  go_wp2_with fail
  go_region_held3 (fun w' => w'.cell? ⟨w.heap.size, 0, none⟩ = some (.bool s) ∧ w'.cell? ⟨w.heap.size, 1, none⟩ = some (.slice A xs.length c))
    (first | go_keep | fail)
    (first
      | (go_at_call 19; refine (rshl_z _ _ xs n _ H1.out (by omega)).mono ?_; rintro e w1 ⟨A1, c1, r1, rfl, q1, k1, v1, b1⟩; obtain ⟨x1, x2, _, _, _⟩ := HX.out.below b1)
      | (go_at_call 73; refine (rsign_any s _ _ r1 _ q1 (by have := len_shl hd hl k1 v1; omega)).mono ?_; rintro e w2 ⟨A2, c2, s2, r2, rfl, q2, k2, v2, b2⟩; obtain ⟨x1, x2, _, _, _⟩ := (HX.out.below b1).below b2; obtain ⟨y1, y2, y3, y4, _⟩ := (HR.out.below b1).below b2))
  go_wp2
  obtain ⟨e1, e2, _, _, _⟩ := (((HR.out.below b1).below b2).set (.bool s2) (.slice A2 r2.length c2))
  refine bodyPost_ret (v := .agg #[.bool s2, .slice A2 r2.length c2]) (by simp [results, Try.results55, go_sem, e1, e2]) rfl ?_
  exact RetI.box (by omega) ((HR.out.below b1).below b2) q2 k2 (v2.trans (ival_shl s v1)) ((HB.out.trans (b1.mono HB.out.size)).trans (b2.mono (HB.out.trans (b1.mono HB.out.size)).size))

-- ADD --
theorem len_sum {xs ys r : List Nat} (hd : Dig xs) (kd : Dig ys) (hl : xs.length ≤ 60000) (kl : ys.length ≤ 60000) (hc : Canon r) (hv : val r = val xs + val ys) : r.length ≤ 60001 := by
  obtain ⟨K, hK⟩ : ∃ K, K = 60000 := ⟨_, rfl⟩
  rw [← hK] at hl kl
  have h1 := Nat.lt_of_lt_of_le (val_lt hd) (Nat.pow_le_pow_right (by decide) hl)
  have h2 := Nat.lt_of_lt_of_le (val_lt kd) (Nat.pow_le_pow_right (by decide) kl)
  have h3 : r.length ≤ K + 1 := len_le hc (by rw [hv, Nat.pow_succ]; omega)
  omega
theorem len_less {xs r : List Nat} {n : Nat} (hd : Dig xs) (hl : xs.length ≤ 60000) (hc : Canon r) (hv : val r = val xs - n) : r.length ≤ 60000 := by
  obtain ⟨K, hK⟩ : ∃ K, K = 60000 := ⟨_, rfl⟩
  rw [← hK] at hl
  have h1 := Nat.lt_of_lt_of_le (val_lt hd) (Nat.pow_le_pow_right (by decide) hl)
  have h3 : r.length ≤ K := len_le hc (by rw [hv]; omega)
  omega

set_option maxRecDepth 100000 in
set_option maxHeartbeats 1600000 in
theorem badd_same (s : Bool) (A B : Option Addr) (c d : Nat) (xs ys : List Nat) (w : World) (h : Us w A c xs) (k : Us w B d ys) (hl : xs.length ≤ 60000) (kl : ys.length ≤ 60000) :
    Calls Try.prog 46 #[.agg #[.bool s, .slice A xs.length c], .agg #[.bool s, .slice B ys.length d]] w (RetI (ival s xs + ival s ys) w) := by
  have hcap := h.cap
  have kcap := k.cap
  obtain ⟨hX, hY, hR, hB⟩ := box3 w (.bool s) (.slice A xs.length c) (.bool s) (.slice B ys.length d) (.bool false) (.slice none 0 0) 43
  have HX := Lib.hid hX.drew
  have HY := Lib.hid hY.drew
  have HR := Lib.hid hR.drew
  have HB := Lib.hid (Below.drew' hB)
  have H1 := Lib.hid (h.below HB.out)
  have H2 := Lib.hid (k.below HB.out)
  have hd := h.1
  have kd := k.1
  clear h k hX hY hR hB
  have n1 : ¬ w.heap.size = w.heap.size + 1 + 1 := by omega
  have n2 : ¬ w.heap.size + 1 + 1 = w.heap.size := by omega
  go_enter Try.func46, Try.ntmps46
  go_wp2_with fail
  go_region_held3 (fun w' => w'.cell? ⟨w.heap.size, 0, none⟩ = some (.bool s) ∧ w'.cell? ⟨w.heap.size, 1, none⟩ = some (.slice A xs.length c) ∧ w'.cell? ⟨w.heap.size + 1, 1, none⟩ = some (.slice B ys.length d))
    (first | go_keep | fail)
    (first
      | (go_at_call 14; refine (add_any _ _ _ _ xs ys _ H1.out H2.out (by omega) (by omega)).mono ?_; rintro e w1 ⟨A1, c1, r1, rfl, q1, k1, v1, b1⟩; obtain ⟨x1, x2, _, _, _⟩ := HX.out.below b1; obtain ⟨_, z2, _, _, _⟩ := HY.out.below b1; have l1 := len_sum hd kd hl kl k1 v1)
      | (go_at_call 72; refine (signed_any s _ _ r1 _ q1 k1).mono ?_; rintro e w2 ⟨A2, c2, s2, r2, rfl, q2, k2, v2, b2⟩; obtain ⟨x1, x2, _, _, _⟩ := (HX.out.below b1).below b2; obtain ⟨_, z2, _, _, _⟩ := (HY.out.below b1).below b2; obtain ⟨y1, y2, y3, y4, _⟩ := (HR.out.below b1).below b2))
  go_wp2
  obtain ⟨e1, e2, _, _, _⟩ := (((HR.out.below b1).below b2).set (.bool s2) (.slice A2 r2.length c2))
  refine bodyPost_ret (v := .agg #[.bool s2, .slice A2 r2.length c2]) (by simp [results, Try.results46, go_sem, e1, e2]) rfl ?_
  refine RetI.box (by omega) ((HR.out.below b1).below b2) q2 k2 (v2.trans ?_) ((HB.out.trans (b1.mono HB.out.size)).trans (b2.mono (HB.out.trans (b1.mono HB.out.size)).size))
  unfold ival
  rw [v1]
  cases s <;> simp <;> omega

set_option maxRecDepth 100000 in
set_option maxHeartbeats 1600000 in
theorem badd_more (s : Bool) (A B : Option Addr) (c d : Nat) (xs ys : List Nat) (w : World) (h : Us w A c xs) (k : Us w B d ys) (hl : xs.length ≤ 60000) (kl : ys.length ≤ 60000) (hle : val ys ≤ val xs) :
    Calls Try.prog 46 #[.agg #[.bool s, .slice A xs.length c], .agg #[.bool (!s), .slice B ys.length d]] w (RetI (ival s xs + ival (!s) ys) w) := by
  have hcap := h.cap
  have kcap := k.cap
  obtain ⟨hX, hY, hR, hB⟩ := box3 w (.bool s) (.slice A xs.length c) (.bool (!s)) (.slice B ys.length d) (.bool false) (.slice none 0 0) 43
  have HX := Lib.hid hX
  have HY := Lib.hid hY
  have HR := Lib.hid hR
  have HB := Lib.hid (hB)
  have H1 := Lib.hid (h.below HB.out)
  have H2 := Lib.hid (k.below HB.out)
  have hd := h.1
  have kd := k.1
  clear h k hX hY hR hB
  have n1 : ¬ w.heap.size = w.heap.size + 1 + 1 := by omega
  have n2 : ¬ w.heap.size + 1 + 1 = w.heap.size := by omega
  have HL := Lib.hid hle
  clear hle
  have hst : (s == !s) = false := by cases s <;> rfl
  go_enter Try.func46, Try.ntmps46
  go_wp2_with (first
    | (go_at_call_of 11 (Value.slice A xs.length c); go_loud (refine (sub_any _ _ _ _ xs ys _ H1.out H2.out (by omega) (by omega)).mono ?_; intro e w1 h; obtain ⟨A1, c1, r1, rfl, q1, k1, v1, b1⟩ := h.2 HL.out; clear h; obtain ⟨x1, x2, _, _, _⟩ := HX.out.below b1; obtain ⟨z1, z2, _, _, _⟩ := HY.out.below b1; have l1 := len_less hd hl k1 v1; have HV := Lib.hid v1; clear v1))
    | (go_at_call 72; go_loud (refine (signed_any s _ _ r1 _ q1 k1).mono ?_; rintro e w2 ⟨A2, c2, s2, r2, rfl, q2, k2, v2, b2⟩; obtain ⟨y1, y2, y3, y4, _⟩ := (HR.out.below b1).below b2; have HV2 := Lib.hid v2; clear v2)))
  obtain ⟨e1, e2, _, _, _⟩ := (((HR.out.below b1).below b2).set (.bool s2) (.slice A2 r2.length c2))
  refine bodyPost_ret (v := .agg #[.bool s2, .slice A2 r2.length c2]) (by simp [results, Try.results46, go_sem, e1, e2]) rfl ?_
  refine RetI.box (by omega) ((HR.out.below b1).below b2) q2 k2 (HV2.out.trans ?_) ((HB.out.trans (b1.mono HB.out.size)).trans (b2.mono (HB.out.trans (b1.mono HB.out.size)).size))
  have hle := HL.out
  unfold ival
  rw [HV.out]
  cases s <;> simp <;> omega

set_option maxRecDepth 100000 in
set_option maxHeartbeats 1600000 in
theorem badd_less (s : Bool) (A B : Option Addr) (c d : Nat) (xs ys : List Nat) (w : World) (h : Us w A c xs) (k : Us w B d ys) (hl : xs.length ≤ 60000) (kl : ys.length ≤ 60000) (hle : val xs < val ys) :
    Calls Try.prog 46 #[.agg #[.bool s, .slice A xs.length c], .agg #[.bool (!s), .slice B ys.length d]] w (RetI (ival s xs + ival (!s) ys) w) := by
  have hcap := h.cap
  have kcap := k.cap
  obtain ⟨hX, hY, hR, hB⟩ := box3 w (.bool s) (.slice A xs.length c) (.bool (!s)) (.slice B ys.length d) (.bool false) (.slice none 0 0) 43
  have HX := Lib.hid hX
  have HY := Lib.hid hY
  have HR := Lib.hid hR
  have HB := Lib.hid (hB)
  have H1 := Lib.hid (h.below HB.out)
  have H2 := Lib.hid (k.below HB.out)
  have hd := h.1
  have kd := k.1
  clear h k hX hY hR hB
  have n1 : ¬ w.heap.size = w.heap.size + 1 + 1 := by omega
  have n2 : ¬ w.heap.size + 1 + 1 = w.heap.size := by omega
  have HL := Lib.hid hle
  clear hle
  have hst : (s == !s) = false := by cases s <;> rfl
  have tok0 : True := trivial
  go_enter Try.func46, Try.ntmps46
  go_wp2_with (first
    | (go_at_call 11; have _t := tok0; refine (sub_any A B _ _ xs ys _ H1.out H2.out (by omega) (by omega)).mono ?_; intro e w1 h; obtain ⟨rfl, b1⟩ := h.1 HL.out; clear h tok0 _t; obtain ⟨x1, x2, _, _, _⟩ := HX.out.below b1; obtain ⟨z1, z2, _, _, _⟩ := HY.out.below b1)
    | (go_at_call 11; go_loud (refine (sub_any B A _ _ ys xs _ (H2.out.below b1) (H1.out.below b1) (by omega) (by omega)).mono ?_; intro e w3 h; obtain ⟨A1, c1, r1, rfl, q1, k1, v1, b3⟩ := h.2 (Nat.le_of_lt HL.out); clear h x1 x2 z1 z2; obtain ⟨x1, x2, _, _, _⟩ := (HX.out.below b1).below b3; obtain ⟨z1, z2, _, _, _⟩ := (HY.out.below b1).below b3; have l1 := len_less kd kl k1 v1; have HV := Lib.hid v1; clear v1))
    | (go_at_call 72; go_loud (refine (signed_any (!s) _ _ r1 _ q1 k1).mono ?_; rintro e w2 ⟨A2, c2, s2, r2, rfl, q2, k2, v2, b2⟩; obtain ⟨y1, y2, y3, y4, _⟩ := ((HR.out.below b1).below b3).below b2; have HV2 := Lib.hid v2; clear v2)))
  obtain ⟨e1, e2, _, _, _⟩ := ((((HR.out.below b1).below b3).below b2).set (.bool s2) (.slice A2 r2.length c2))
  refine bodyPost_ret (v := .agg #[.bool s2, .slice A2 r2.length c2]) (by simp [results, Try.results46, go_sem, e1, e2]) rfl ?_
  have hb1 := HB.out.trans (b1.mono HB.out.size)
  have hb3 := hb1.trans (b3.mono hb1.size)
  refine RetI.box (by omega) (((HR.out.below b1).below b3).below b2) q2 k2 (HV2.out.trans ?_) (hb3.trans (b2.mono hb3.size))
  have hle := HL.out
  unfold ival
  rw [HV.out]
  cases s <;> simp <;> omega

theorem badd_any (s t : Bool) (A B : Option Addr) (c d : Nat) (xs ys : List Nat) (w : World) (h : Us w A c xs) (k : Us w B d ys) (hl : xs.length ≤ 60000) (kl : ys.length ≤ 60000) :
    Calls Try.prog 46 #[.agg #[.bool s, .slice A xs.length c], .agg #[.bool t, .slice B ys.length d]] w (RetI (ival s xs + ival t ys) w) := by
  by_cases hst : s = t
  · subst hst
    exact badd_same s A B c d xs ys w h k hl kl
  · obtain rfl : t = !s := by cases s <;> cases t <;> simp_all
    rcases Nat.lt_or_ge (val xs) (val ys) with hlt | hge
    · exact badd_less s A B c d xs ys w h k hl kl hlt
    · exact badd_more s A B c d xs ys w h k hl kl hge

set_option maxRecDepth 100000 in
set_option maxHeartbeats 1600000 in
theorem rbadd_same (s : Bool) (A B : Option Addr) (c d : Nat) (xs ys : List Nat) (w : World) (h : Us w A c xs) (k : Us w B d ys) (hl : xs.length ≤ 60000) (kl : ys.length ≤ 60000) :
    Calls Try.prog 47 #[.agg #[.bool s, .slice A xs.length c], .agg #[.bool s, .slice B ys.length d]] w (RetI (ival s xs + ival s ys) w) := by
  have hcap := h.cap
  have kcap := k.cap
  obtain ⟨hX, hY, hR, hB⟩ := box3 w (.bool s) (.slice A xs.length c) (.bool s) (.slice B ys.length d) (.bool false) (.slice none 0 0) 43
  have HX := Lib.hid hX.drew
  have HY := Lib.hid hY.drew
  have HR := Lib.hid hR.drew
  have HB := Lib.hid (Below.drew' hB)
  have H1 := Lib.hid (h.below HB.out)
  have H2 := Lib.hid (k.below HB.out)
  have hd := h.1
  have kd := k.1
  clear h k hX hY hR hB
  have n1 : ¬ w.heap.size = w.heap.size + 1 + 1 := by omega
  have n2 : ¬ w.heap.size + 1 + 1 = w.heap.size := by omega
  go_enter Try.func47, Try.ntmps47
  go_wp2_with fail
  go_region_held3 (fun w' => w'.cell? ⟨w.heap.size, 0, none⟩ = some (.bool s) ∧ w'.cell? ⟨w.heap.size, 1, none⟩ = some (.slice A xs.length c) ∧ w'.cell? ⟨w.heap.size + 1, 1, none⟩ = some (.slice B ys.length d))
    (first | go_keep | fail)
    (first
      | (go_at_call 15; refine (radd_any _ _ _ _ xs ys _ H1.out H2.out (by omega) (by omega)).mono ?_; rintro e w1 ⟨A1, c1, r1, rfl, q1, k1, v1, b1⟩; obtain ⟨x1, x2, _, _, _⟩ := HX.out.below b1; obtain ⟨_, z2, _, _, _⟩ := HY.out.below b1; have l1 := len_sum hd kd hl kl k1 v1)
      | (go_at_call 73; refine (rsign_any s _ _ r1 _ q1 (by omega)).mono ?_; rintro e w2 ⟨A2, c2, s2, r2, rfl, q2, k2, v2, b2⟩; obtain ⟨x1, x2, _, _, _⟩ := (HX.out.below b1).below b2; obtain ⟨_, z2, _, _, _⟩ := (HY.out.below b1).below b2; obtain ⟨y1, y2, y3, y4, _⟩ := (HR.out.below b1).below b2))
  go_wp2
  obtain ⟨e1, e2, _, _, _⟩ := (((HR.out.below b1).below b2).set (.bool s2) (.slice A2 r2.length c2))
  refine bodyPost_ret (v := .agg #[.bool s2, .slice A2 r2.length c2]) (by simp [results, Try.results47, go_sem, e1, e2]) rfl ?_
  refine RetI.box (by omega) ((HR.out.below b1).below b2) q2 k2 (v2.trans ?_) ((HB.out.trans (b1.mono HB.out.size)).trans (b2.mono (HB.out.trans (b1.mono HB.out.size)).size))
  unfold ival
  rw [v1]
  cases s <;> simp <;> omega

set_option maxRecDepth 100000 in
set_option maxHeartbeats 1600000 in
theorem rbadd_more (s : Bool) (A B : Option Addr) (c d : Nat) (xs ys : List Nat) (w : World) (h : Us w A c xs) (k : Us w B d ys) (hl : xs.length ≤ 60000) (kl : ys.length ≤ 60000) (hle : val ys ≤ val xs) :
    Calls Try.prog 47 #[.agg #[.bool s, .slice A xs.length c], .agg #[.bool (!s), .slice B ys.length d]] w (RetI (ival s xs + ival (!s) ys) w) := by
  have hcap := h.cap
  have kcap := k.cap
  obtain ⟨hX, hY, hR, hB⟩ := box3 w (.bool s) (.slice A xs.length c) (.bool (!s)) (.slice B ys.length d) (.bool false) (.slice none 0 0) 43
  have HX := Lib.hid hX
  have HY := Lib.hid hY
  have HR := Lib.hid hR
  have HB := Lib.hid (hB)
  have H1 := Lib.hid (h.below HB.out)
  have H2 := Lib.hid (k.below HB.out)
  have hd := h.1
  have kd := k.1
  clear h k hX hY hR hB
  have n1 : ¬ w.heap.size = w.heap.size + 1 + 1 := by omega
  have n2 : ¬ w.heap.size + 1 + 1 = w.heap.size := by omega
  have HL := Lib.hid hle
  clear hle
  have hst : (s == !s) = false := by cases s <;> rfl
  go_enter Try.func47, Try.ntmps47
  go_wp2_with (first
    | (go_at_call_of 12 (Value.slice A xs.length c); go_loud (refine (rsub_any _ _ _ _ xs ys _ H1.out H2.out (by omega) (by omega)).mono ?_; intro e w1 h; obtain ⟨A1, c1, r1, rfl, q1, k1, v1, b1⟩ := h.2 HL.out; clear h; obtain ⟨x1, x2, _, _, _⟩ := HX.out.below b1; obtain ⟨z1, z2, _, _, _⟩ := HY.out.below b1; have l1 := len_less hd hl k1 v1; have HV := Lib.hid v1; clear v1))
    | (go_at_call 73; go_loud (refine (rsign_any s _ _ r1 _ q1 (by omega)).mono ?_; rintro e w2 ⟨A2, c2, s2, r2, rfl, q2, k2, v2, b2⟩; obtain ⟨y1, y2, y3, y4, _⟩ := (HR.out.below b1).below b2; have HV2 := Lib.hid v2; clear v2)))
  obtain ⟨e1, e2, _, _, _⟩ := (((HR.out.below b1).below b2).set (.bool s2) (.slice A2 r2.length c2))
  refine bodyPost_ret (v := .agg #[.bool s2, .slice A2 r2.length c2]) (by simp [results, Try.results47, go_sem, e1, e2]) rfl ?_
  refine RetI.box (by omega) ((HR.out.below b1).below b2) q2 k2 (HV2.out.trans ?_) ((HB.out.trans (b1.mono HB.out.size)).trans (b2.mono (HB.out.trans (b1.mono HB.out.size)).size))
  have hle := HL.out
  unfold ival
  rw [HV.out]
  cases s <;> simp <;> omega

set_option maxRecDepth 100000 in
set_option maxHeartbeats 1600000 in
theorem rbadd_less (s : Bool) (A B : Option Addr) (c d : Nat) (xs ys : List Nat) (w : World) (h : Us w A c xs) (k : Us w B d ys) (hl : xs.length ≤ 60000) (kl : ys.length ≤ 60000) (hle : val xs < val ys) :
    Calls Try.prog 47 #[.agg #[.bool s, .slice A xs.length c], .agg #[.bool (!s), .slice B ys.length d]] w (RetI (ival s xs + ival (!s) ys) w) := by
  have hcap := h.cap
  have kcap := k.cap
  obtain ⟨hX, hY, hR, hB⟩ := box3 w (.bool s) (.slice A xs.length c) (.bool (!s)) (.slice B ys.length d) (.bool false) (.slice none 0 0) 43
  have HX := Lib.hid hX
  have HY := Lib.hid hY
  have HR := Lib.hid hR
  have HB := Lib.hid (hB)
  have H1 := Lib.hid (h.below HB.out)
  have H2 := Lib.hid (k.below HB.out)
  have hd := h.1
  have kd := k.1
  clear h k hX hY hR hB
  have n1 : ¬ w.heap.size = w.heap.size + 1 + 1 := by omega
  have n2 : ¬ w.heap.size + 1 + 1 = w.heap.size := by omega
  have HL := Lib.hid hle
  clear hle
  have hst : (s == !s) = false := by cases s <;> rfl
  have tok0 : True := trivial
  go_enter Try.func47, Try.ntmps47
  go_wp2_with (first
    | (go_at_call 12; have _t := tok0; refine (rsub_any A B _ _ xs ys _ H1.out H2.out (by omega) (by omega)).mono ?_; intro e w1 h; obtain ⟨rfl, b1⟩ := h.1 HL.out; clear h tok0 _t; obtain ⟨x1, x2, _, _, _⟩ := HX.out.below b1; obtain ⟨z1, z2, _, _, _⟩ := HY.out.below b1)
    | (go_at_call 12; go_loud (refine (rsub_any B A _ _ ys xs _ (H2.out.below b1) (H1.out.below b1) (by omega) (by omega)).mono ?_; intro e w3 h; obtain ⟨A1, c1, r1, rfl, q1, k1, v1, b3⟩ := h.2 (Nat.le_of_lt HL.out); clear h x1 x2 z1 z2; obtain ⟨x1, x2, _, _, _⟩ := (HX.out.below b1).below b3; obtain ⟨z1, z2, _, _, _⟩ := (HY.out.below b1).below b3; have l1 := len_less kd kl k1 v1; have HV := Lib.hid v1; clear v1))
    | (go_at_call 73; go_loud (refine (rsign_any (!s) _ _ r1 _ q1 (by omega)).mono ?_; rintro e w2 ⟨A2, c2, s2, r2, rfl, q2, k2, v2, b2⟩; obtain ⟨y1, y2, y3, y4, _⟩ := ((HR.out.below b1).below b3).below b2; have HV2 := Lib.hid v2; clear v2)))
  obtain ⟨e1, e2, _, _, _⟩ := ((((HR.out.below b1).below b3).below b2).set (.bool s2) (.slice A2 r2.length c2))
  refine bodyPost_ret (v := .agg #[.bool s2, .slice A2 r2.length c2]) (by simp [results, Try.results47, go_sem, e1, e2]) rfl ?_
  have hb1 := HB.out.trans (b1.mono HB.out.size)
  have hb3 := hb1.trans (b3.mono hb1.size)
  refine RetI.box (by omega) (((HR.out.below b1).below b3).below b2) q2 k2 (HV2.out.trans ?_) (hb3.trans (b2.mono hb3.size))
  have hle := HL.out
  unfold ival
  rw [HV.out]
  cases s <;> simp <;> omega

theorem rbadd_any (s t : Bool) (A B : Option Addr) (c d : Nat) (xs ys : List Nat) (w : World) (h : Us w A c xs) (k : Us w B d ys) (hl : xs.length ≤ 60000) (kl : ys.length ≤ 60000) :
    Calls Try.prog 47 #[.agg #[.bool s, .slice A xs.length c], .agg #[.bool t, .slice B ys.length d]] w (RetI (ival s xs + ival t ys) w) := by
  by_cases hst : s = t
  · subst hst
    exact rbadd_same s A B c d xs ys w h k hl kl
  · obtain rfl : t = !s := by cases s <;> cases t <;> simp_all
    rcases Nat.lt_or_ge (val xs) (val ys) with hlt | hge
    · exact rbadd_less s A B c d xs ys w h k hl kl hlt
    · exact rbadd_more s A B c d xs ys w h k hl kl hge

end Go.Proofs.Ythkeehfoefjnfaa
