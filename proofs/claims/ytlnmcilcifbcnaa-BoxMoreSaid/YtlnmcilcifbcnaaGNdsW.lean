/-
  big: Minus, Shl, Add of the program and of the reference.
  big: Of, Pow, Sub of the program and of the reference.
  big: Sub, Pow, Cmp of the program and of the reference; fromMinusOne.
  big: Right, Same of the program and of the reference; Great; the reference's Shr.
  The reference's Shr of big numbers.
  node: empty nodes, plain.
  node: walks through a list of nodes, plain.
-/
import Derived.Test.YtlnmcilcifbcnaaGBig
import Derived.Test.YtlnmcilcifbcnaaGNdMem

set_option linter.unusedVariables false
set_option linter.unusedSimpArgs false
set_option maxRecDepth 100000
namespace Go.Proofs.Ytlnmcilcifbcnaa
open Go.RowKit Num
def shlI (x : Int) (n : Int) : Int := if 0 ≤ n ∧ n ≤ 10000 then x * 2 ^ n.toNat else 0
theorem ival_shl (s : Bool) {xs r : List Nat} {n : Int} (h : val r = shlN (val xs) n) : ival s r = shlI (ival s xs) n := by
 unfold ival shlI
 rw [h]
 unfold shlN
 by_cases hn : 0 ≤ n ∧ n ≤ 10000
 ·
  rw [if_pos hn, if_pos hn]
  cases s <;> simp [Int.neg_mul]
 ·
  rw [if_neg hn, if_neg hn]
  cases s <;> rfl
theorem len_shl {xs r : List Nat} {n : Int} (hd : Dig xs) (hl : xs.length ≤ 60000) (hc : Canon r) (hv : val r = shlN (val xs) n) : r.length ≤ 60313 := by
 obtain ⟨K, hK⟩ : ∃ K, K = 60000 := ⟨_, rfl⟩
 obtain ⟨M, hM⟩ : ∃ M, M = 313 := ⟨_, rfl⟩
 rw [← hK] at hl
 have h3 := Nat.lt_of_lt_of_le (val_lt hd) (Nat.pow_le_pow_right (by decide) hl)
 have h5 : r.length ≤ K + M := by
  refine len_le hc ?_
  rw [hv, Nat.pow_add, pow_32 M]
  generalize (4294967296 : Nat) ^ K = P at *
  unfold shlN
  split
  ·
   rename_i h
   have h4 : 2 ^ n.toNat ≤ 2 ^ (32 * M) := Nat.pow_le_pow_right (by decide) (by omega)
   exact Nat.lt_of_le_of_lt (Nat.mul_le_mul_left _ h4) (Nat.mul_lt_mul_of_pos_right h3 (Nat.two_pow_pos _))
  ·
   exact Nat.mul_pos (by omega) (Nat.two_pow_pos _)
 omega
theorem ival_neg (s : Bool) {xs r : List Nat} (h : val r = val xs) : ival (!s) r = -ival s xs := by
 unfold ival
 rw [h]
 cases s <;> simp
set_option maxHeartbeats 1600000 in
theorem rminus_any (s : Bool) (A : Option Addr) (c : Nat) (xs : List Nat) (w : World) (h : Us w A c xs) (hl : xs.length ≤ 100000) :
  Calls Try.prog 66 #[.agg #[.bool s, .slice A xs.length c]] w (RetI (-ival s xs) w) := by
 have hcap := h.cap
 obtain ⟨hX, hR, hB⟩ := box2 w (.bool s) (.slice A xs.length c) (.bool false) (.slice none 0 0) 25
 have HR := Lib.hid hR
 have HB := Lib.hid hB
 have H1 := Lib.hid (h.below HB.out)
 clear h hX hR hB
 go_enter Try.func66, Try.ntmps66
 go_wp2_with (go_at_call 70; refine (rsign_any (!s) _ _ xs _ H1.out hl).mono ?_; rintro e w2 ⟨A2, c2, s2, r2, rfl, q2, k2, v2, b2⟩; obtain ⟨y1, y2, y3, y4, _⟩ := HR.out.below b2)
 obtain ⟨e1, e2, _, _, _⟩ := (HR.out.below b2).set (.bool s2) (.slice A2 r2.length c2)
 refine bodyPost_ret (v := .agg #[.bool s2, .slice A2 r2.length c2]) (by simp [results, Try.results66, go_sem, e1, e2]) rfl ?_
 exact RetI.box (by omega) (HR.out.below b2) q2 k2 (v2.trans (ival_neg s rfl)) (HB.out.trans (b2.mono HB.out.size))
set_option maxHeartbeats 1600000 in
theorem bshl_any (s : Bool) (A : Option Addr) (c : Nat) (xs : List Nat) (n : Int) (w : World) (h : Us w A c xs) (hl : xs.length ≤ 100000) :
  Calls Try.prog 100 #[.agg #[.bool s, .slice A xs.length c], .int .i64 n] w (RetI (shlI (ival s xs) n) w) := by
 have hcap := h.cap
 obtain ⟨hX, hR, hB⟩ := box2 w (.bool s) (.slice A xs.length c) (.bool false) (.slice none 0 0) 25
 have HX := Lib.hid hX.drew
 have HR := Lib.hid hR.drew
 have HB := Lib.hid (Below.drew' hB)
 have H1 := Lib.hid (h.below HB.out)
 clear h hX hR hB
 go_enter Try.func100, Try.ntmps100
 go_wp2_with fail
 go_region_held3 (fun w' => w'.cell? ⟨w.heap.size, 0, none⟩ = some (.bool s) ∧ w'.cell? ⟨w.heap.size, 1, none⟩ = some (.slice A xs.length c))
  (first | go_keep | fail)
  (first
   | (go_at_call 116; refine (shl_z _ _ xs n _ H1.out (by omega)).mono ?_; rintro e w1 ⟨A1, c1, r1, rfl, q1, k1, v1, b1⟩; obtain ⟨x1, x2, _, _, _⟩ := HX.out.below b1)
   | (go_at_call 89; refine (signed_any s _ _ r1 _ q1 k1).mono ?_; rintro e w2 ⟨A2, c2, s2, r2, rfl, q2, k2, v2, b2⟩; obtain ⟨x1, x2, _, _, _⟩ := (HX.out.below b1).below b2; obtain ⟨y1, y2, y3, y4, _⟩ := (HR.out.below b1).below b2))
 go_wp2
 obtain ⟨e1, e2, _, _, _⟩ := (((HR.out.below b1).below b2).set (.bool s2) (.slice A2 r2.length c2))
 refine bodyPost_ret (v := .agg #[.bool s2, .slice A2 r2.length c2]) (by simp [results, Try.results100, go_sem, e1, e2]) rfl ?_
 exact RetI.box (by omega) ((HR.out.below b1).below b2) q2 k2 (v2.trans (ival_shl s v1)) ((HB.out.trans (b1.mono HB.out.size)).trans (b2.mono (HB.out.trans (b1.mono HB.out.size)).size))
set_option maxHeartbeats 1600000 in
theorem rbshl_any (s : Bool) (A : Option Addr) (c : Nat) (xs : List Nat) (n : Int) (w : World) (h : Us w A c xs) (hl : xs.length ≤ 60000) :
  Calls Try.prog 73 #[.agg #[.bool s, .slice A xs.length c], .int .i64 n] w (RetI (shlI (ival s xs) n) w) := by
 have hcap := h.cap
 obtain ⟨hX, hR, hB⟩ := box2 w (.bool s) (.slice A xs.length c) (.bool false) (.slice none 0 0) 25
 have HX := Lib.hid hX.drew
 have HR := Lib.hid hR.drew
 have HB := Lib.hid (Below.drew' hB)
 have hd := h.1
 have H1 := Lib.hid (h.below HB.out)
 clear h hX hR hB
 go_enter Try.func73, Try.ntmps73
 go_wp2_with fail
 go_region_held3 (fun w' => w'.cell? ⟨w.heap.size, 0, none⟩ = some (.bool s) ∧ w'.cell? ⟨w.heap.size, 1, none⟩ = some (.slice A xs.length c))
  (first | go_keep | fail)
  (first
   | (go_at_call 98; refine (rshl_z _ _ xs n _ H1.out (by omega)).mono ?_; rintro e w1 ⟨A1, c1, r1, rfl, q1, k1, v1, b1⟩; obtain ⟨x1, x2, _, _, _⟩ := HX.out.below b1)
   | (go_at_call 70; refine (rsign_any s _ _ r1 _ q1 (by have := len_shl hd hl k1 v1; omega)).mono ?_; rintro e w2 ⟨A2, c2, s2, r2, rfl, q2, k2, v2, b2⟩; obtain ⟨x1, x2, _, _, _⟩ := (HX.out.below b1).below b2; obtain ⟨y1, y2, y3, y4, _⟩ := (HR.out.below b1).below b2))
 go_wp2
 obtain ⟨e1, e2, _, _, _⟩ := (((HR.out.below b1).below b2).set (.bool s2) (.slice A2 r2.length c2))
 refine bodyPost_ret (v := .agg #[.bool s2, .slice A2 r2.length c2]) (by simp [results, Try.results73, go_sem, e1, e2]) rfl ?_
 exact RetI.box (by omega) ((HR.out.below b1).below b2) q2 k2 (v2.trans (ival_shl s v1)) ((HB.out.trans (b1.mono HB.out.size)).trans (b2.mono (HB.out.trans (b1.mono HB.out.size)).size))
-- ADD --
theorem len_sum {xs ys r : List Nat} (hd : Dig xs) (kd : Dig ys) (hl : xs.length ≤ 60000) (kl : ys.length ≤ 60000) (hc : Canon r) (hv : val r = val xs + val ys) : r.length ≤ 60001 := by
 obtain ⟨K, hK⟩ : ∃ K, K = 60000 := ⟨_, rfl⟩
 rw [← hK] at hl kl
 have h1 := Nat.lt_of_lt_of_le (val_lt hd) (Nat.pow_le_pow_right (by decide) hl)
 have h2 := Nat.lt_of_lt_of_le (val_lt kd) (Nat.pow_le_pow_right (by decide) kl)
 have h3 : r.length ≤ K + 1 := len_le hc (by rw [hv, Nat.pow_succ]; omega)
 omega
theorem len_less {xs r : List Nat} {n : Nat} (hd : Dig xs) (hl : xs.length ≤ 60000) (hc : Canon r) (hv : val r = val xs - n) : r.length ≤ 60000 := by
 obtain ⟨K, hK⟩ : ∃ K, K = 60000 := ⟨_, rfl⟩
 rw [← hK] at hl
 have h1 := Nat.lt_of_lt_of_le (val_lt hd) (Nat.pow_le_pow_right (by decide) hl)
 have h3 : r.length ≤ K := len_le hc (by rw [hv]; omega)
 omega
set_option maxHeartbeats 1600000 in
theorem badd_same (s : Bool) (A B : Option Addr) (c d : Nat) (xs ys : List Nat) (w : World) (h : Us w A c xs) (k : Us w B d ys) (hl : xs.length ≤ 60000) (kl : ys.length ≤ 60000) :
  Calls Try.prog 79 #[.agg #[.bool s, .slice A xs.length c], .agg #[.bool s, .slice B ys.length d]] w (RetI (ival s xs + ival s ys) w) := by
 have hcap := h.cap
 have kcap := k.cap
 obtain ⟨hX, hY, hR, hB⟩ := box3 w (.bool s) (.slice A xs.length c) (.bool s) (.slice B ys.length d) (.bool false) (.slice none 0 0) 25
 have HX := Lib.hid hX.drew
 have HY := Lib.hid hY.drew
 have HR := Lib.hid hR.drew
 have HB := Lib.hid (Below.drew' hB)
 have H1 := Lib.hid (h.below HB.out)
 have H2 := Lib.hid (k.below HB.out)
 have hd := h.1
 have kd := k.1
 clear h k hX hY hR hB
 have n1 : ¬ w.heap.size = w.heap.size + 1 + 1 := by omega
 have n2 : ¬ w.heap.size + 1 + 1 = w.heap.size := by omega
 go_enter Try.func79, Try.ntmps79
 go_wp2_with fail
 go_region_held3 (fun w' => w'.cell? ⟨w.heap.size, 0, none⟩ = some (.bool s) ∧ w'.cell? ⟨w.heap.size, 1, none⟩ = some (.slice A xs.length c) ∧ w'.cell? ⟨w.heap.size + 1, 1, none⟩ = some (.slice B ys.length d))
  (first | go_keep | fail)
  (first
   | (go_at_call 101; refine (add_any _ _ _ _ xs ys _ H1.out H2.out (by omega) (by omega)).mono ?_; rintro e w1 ⟨A1, c1, r1, rfl, q1, k1, v1, b1⟩; obtain ⟨x1, x2, _, _, _⟩ := HX.out.below b1; obtain ⟨_, z2, _, _, _⟩ := HY.out.below b1; have l1 := len_sum hd kd hl kl k1 v1)
   | (go_at_call 89; refine (signed_any s _ _ r1 _ q1 k1).mono ?_; rintro e w2 ⟨A2, c2, s2, r2, rfl, q2, k2, v2, b2⟩; obtain ⟨x1, x2, _, _, _⟩ := (HX.out.below b1).below b2; obtain ⟨_, z2, _, _, _⟩ := (HY.out.below b1).below b2; obtain ⟨y1, y2, y3, y4, _⟩ := (HR.out.below b1).below b2))
 go_wp2
 obtain ⟨e1, e2, _, _, _⟩ := (((HR.out.below b1).below b2).set (.bool s2) (.slice A2 r2.length c2))
 refine bodyPost_ret (v := .agg #[.bool s2, .slice A2 r2.length c2]) (by simp [results, Try.results79, go_sem, e1, e2]) rfl ?_
 refine RetI.box (by omega) ((HR.out.below b1).below b2) q2 k2 (v2.trans ?_) ((HB.out.trans (b1.mono HB.out.size)).trans (b2.mono (HB.out.trans (b1.mono HB.out.size)).size))
 unfold ival
 rw [v1]
 cases s <;> simp <;> omega
set_option maxHeartbeats 1600000 in
theorem badd_more (s : Bool) (A B : Option Addr) (c d : Nat) (xs ys : List Nat) (w : World) (h : Us w A c xs) (k : Us w B d ys) (hl : xs.length ≤ 60000) (kl : ys.length ≤ 60000) (hle : val ys ≤ val xs) :
  Calls Try.prog 79 #[.agg #[.bool s, .slice A xs.length c], .agg #[.bool (!s), .slice B ys.length d]] w (RetI (ival s xs + ival (!s) ys) w) := by
 have hcap := h.cap
 have kcap := k.cap
 obtain ⟨hX, hY, hR, hB⟩ := box3 w (.bool s) (.slice A xs.length c) (.bool (!s)) (.slice B ys.length d) (.bool false) (.slice none 0 0) 25
 have HX := Lib.hid hX
 have HY := Lib.hid hY
 have HR := Lib.hid hR
 have HB := Lib.hid (hB)
 have H1 := Lib.hid (h.below HB.out)
 have H2 := Lib.hid (k.below HB.out)
 have hd := h.1
 have kd := k.1
 clear h k hX hY hR hB
 have n1 : ¬ w.heap.size = w.heap.size + 1 + 1 := by omega
 have n2 : ¬ w.heap.size + 1 + 1 = w.heap.size := by omega
 have HL := Lib.hid hle
 clear hle
 have hst : (s == !s) = false := by cases s <;> rfl
 go_enter Try.func79, Try.ntmps79
 go_wp2_with (first
  | (go_at_call_of 102 (Value.slice A xs.length c); go_loud (refine (sub_any _ _ _ _ xs ys _ H1.out H2.out (by omega) (by omega)).mono ?_; intro e w1 h; obtain ⟨A1, c1, r1, rfl, q1, k1, v1, b1⟩ := h.2 HL.out; clear h; obtain ⟨x1, x2, _, _, _⟩ := HX.out.below b1; obtain ⟨z1, z2, _, _, _⟩ := HY.out.below b1; have l1 := len_less hd hl k1 v1; have HV := Lib.hid v1; clear v1))
  | (go_at_call 89; go_loud (refine (signed_any s _ _ r1 _ q1 k1).mono ?_; rintro e w2 ⟨A2, c2, s2, r2, rfl, q2, k2, v2, b2⟩; obtain ⟨y1, y2, y3, y4, _⟩ := (HR.out.below b1).below b2; have HV2 := Lib.hid v2; clear v2)))
 obtain ⟨e1, e2, _, _, _⟩ := (((HR.out.below b1).below b2).set (.bool s2) (.slice A2 r2.length c2))
 refine bodyPost_ret (v := .agg #[.bool s2, .slice A2 r2.length c2]) (by simp [results, Try.results79, go_sem, e1, e2]) rfl ?_
 refine RetI.box (by omega) ((HR.out.below b1).below b2) q2 k2 (HV2.out.trans ?_) ((HB.out.trans (b1.mono HB.out.size)).trans (b2.mono (HB.out.trans (b1.mono HB.out.size)).size))
 have hle := HL.out
 unfold ival
 rw [HV.out]
 cases s <;> simp <;> omega
set_option maxHeartbeats 1600000 in
theorem badd_less (s : Bool) (A B : Option Addr) (c d : Nat) (xs ys : List Nat) (w : World) (h : Us w A c xs) (k : Us w B d ys) (hl : xs.length ≤ 60000) (kl : ys.length ≤ 60000) (hle : val xs < val ys) :
  Calls Try.prog 79 #[.agg #[.bool s, .slice A xs.length c], .agg #[.bool (!s), .slice B ys.length d]] w (RetI (ival s xs + ival (!s) ys) w) := by
 have hcap := h.cap
 have kcap := k.cap
 obtain ⟨hX, hY, hR, hB⟩ := box3 w (.bool s) (.slice A xs.length c) (.bool (!s)) (.slice B ys.length d) (.bool false) (.slice none 0 0) 25
 have HX := Lib.hid hX
 have HY := Lib.hid hY
 have HR := Lib.hid hR
 have HB := Lib.hid (hB)
 have H1 := Lib.hid (h.below HB.out)
 have H2 := Lib.hid (k.below HB.out)
 have hd := h.1
 have kd := k.1
 clear h k hX hY hR hB
 have n1 : ¬ w.heap.size = w.heap.size + 1 + 1 := by omega
 have n2 : ¬ w.heap.size + 1 + 1 = w.heap.size := by omega
 have HL := Lib.hid hle
 clear hle
 have hst : (s == !s) = false := by cases s <;> rfl
 have tok0 : True := trivial
 go_enter Try.func79, Try.ntmps79
 go_wp2_with (first
  | (go_at_call 102; have _t := tok0; refine (sub_any A B _ _ xs ys _ H1.out H2.out (by omega) (by omega)).mono ?_; intro e w1 h; obtain ⟨rfl, b1⟩ := h.1 HL.out; clear h tok0 _t; obtain ⟨x1, x2, _, _, _⟩ := HX.out.below b1; obtain ⟨z1, z2, _, _, _⟩ := HY.out.below b1)
  | (go_at_call 102; go_loud (refine (sub_any B A _ _ ys xs _ (H2.out.below b1) (H1.out.below b1) (by omega) (by omega)).mono ?_; intro e w3 h; obtain ⟨A1, c1, r1, rfl, q1, k1, v1, b3⟩ := h.2 (Nat.le_of_lt HL.out); clear h x1 x2 z1 z2; obtain ⟨x1, x2, _, _, _⟩ := (HX.out.below b1).below b3; obtain ⟨z1, z2, _, _, _⟩ := (HY.out.below b1).below b3; have l1 := len_less kd kl k1 v1; have HV := Lib.hid v1; clear v1))
  | (go_at_call 89; go_loud (refine (signed_any (!s) _ _ r1 _ q1 k1).mono ?_; rintro e w2 ⟨A2, c2, s2, r2, rfl, q2, k2, v2, b2⟩; obtain ⟨y1, y2, y3, y4, _⟩ := ((HR.out.below b1).below b3).below b2; have HV2 := Lib.hid v2; clear v2)))
 obtain ⟨e1, e2, _, _, _⟩ := ((((HR.out.below b1).below b3).below b2).set (.bool s2) (.slice A2 r2.length c2))
 refine bodyPost_ret (v := .agg #[.bool s2, .slice A2 r2.length c2]) (by simp [results, Try.results79, go_sem, e1, e2]) rfl ?_
 have hb1 := HB.out.trans (b1.mono HB.out.size)
 have hb3 := hb1.trans (b3.mono hb1.size)
 refine RetI.box (by omega) (((HR.out.below b1).below b3).below b2) q2 k2 (HV2.out.trans ?_) (hb3.trans (b2.mono hb3.size))
 have hle := HL.out
 unfold ival
 rw [HV.out]
 cases s <;> simp <;> omega
theorem badd_any (s t : Bool) (A B : Option Addr) (c d : Nat) (xs ys : List Nat) (w : World) (h : Us w A c xs) (k : Us w B d ys) (hl : xs.length ≤ 60000) (kl : ys.length ≤ 60000) :
  Calls Try.prog 79 #[.agg #[.bool s, .slice A xs.length c], .agg #[.bool t, .slice B ys.length d]] w (RetI (ival s xs + ival t ys) w) := by
 by_cases hst : s = t
 ·
  subst hst
  exact badd_same s A B c d xs ys w h k hl kl
 ·
  obtain rfl : t = !s := by cases s <;> cases t <;> simp_all
  rcases Nat.lt_or_ge (val xs) (val ys) with hlt | hge
  ·
   exact badd_less s A B c d xs ys w h k hl kl hlt
  ·
   exact badd_more s A B c d xs ys w h k hl kl hge
set_option maxHeartbeats 1600000 in
theorem rbadd_same (s : Bool) (A B : Option Addr) (c d : Nat) (xs ys : List Nat) (w : World) (h : Us w A c xs) (k : Us w B d ys) (hl : xs.length ≤ 60000) (kl : ys.length ≤ 60000) :
  Calls Try.prog 34 #[.agg #[.bool s, .slice A xs.length c], .agg #[.bool s, .slice B ys.length d]] w (RetI (ival s xs + ival s ys) w) := by
 have hcap := h.cap
 have kcap := k.cap
 obtain ⟨hX, hY, hR, hB⟩ := box3 w (.bool s) (.slice A xs.length c) (.bool s) (.slice B ys.length d) (.bool false) (.slice none 0 0) 25
 have HX := Lib.hid hX.drew
 have HY := Lib.hid hY.drew
 have HR := Lib.hid hR.drew
 have HB := Lib.hid (Below.drew' hB)
 have H1 := Lib.hid (h.below HB.out)
 have H2 := Lib.hid (k.below HB.out)
 have hd := h.1
 have kd := k.1
 clear h k hX hY hR hB
 have n1 : ¬ w.heap.size = w.heap.size + 1 + 1 := by omega
 have n2 : ¬ w.heap.size + 1 + 1 = w.heap.size := by omega
 go_enter Try.func34, Try.ntmps34
 go_wp2_with fail
 go_region_held3 (fun w' => w'.cell? ⟨w.heap.size, 0, none⟩ = some (.bool s) ∧ w'.cell? ⟨w.heap.size, 1, none⟩ = some (.slice A xs.length c) ∧ w'.cell? ⟨w.heap.size + 1, 1, none⟩ = some (.slice B ys.length d))
  (first | go_keep | fail)
  (first
   | (go_at_call 71; refine (radd_any _ _ _ _ xs ys _ H1.out H2.out (by omega) (by omega)).mono ?_; rintro e w1 ⟨A1, c1, r1, rfl, q1, k1, v1, b1⟩; obtain ⟨x1, x2, _, _, _⟩ := HX.out.below b1; obtain ⟨_, z2, _, _, _⟩ := HY.out.below b1; have l1 := len_sum hd kd hl kl k1 v1)
   | (go_at_call 70; refine (rsign_any s _ _ r1 _ q1 (by omega)).mono ?_; rintro e w2 ⟨A2, c2, s2, r2, rfl, q2, k2, v2, b2⟩; obtain ⟨x1, x2, _, _, _⟩ := (HX.out.below b1).below b2; obtain ⟨_, z2, _, _, _⟩ := (HY.out.below b1).below b2; obtain ⟨y1, y2, y3, y4, _⟩ := (HR.out.below b1).below b2))
 go_wp2
 obtain ⟨e1, e2, _, _, _⟩ := (((HR.out.below b1).below b2).set (.bool s2) (.slice A2 r2.length c2))
 refine bodyPost_ret (v := .agg #[.bool s2, .slice A2 r2.length c2]) (by simp [results, Try.results34, go_sem, e1, e2]) rfl ?_
 refine RetI.box (by omega) ((HR.out.below b1).below b2) q2 k2 (v2.trans ?_) ((HB.out.trans (b1.mono HB.out.size)).trans (b2.mono (HB.out.trans (b1.mono HB.out.size)).size))
 unfold ival
 rw [v1]
 cases s <;> simp <;> omega
set_option maxHeartbeats 1600000 in
theorem rbadd_more (s : Bool) (A B : Option Addr) (c d : Nat) (xs ys : List Nat) (w : World) (h : Us w A c xs) (k : Us w B d ys) (hl : xs.length ≤ 60000) (kl : ys.length ≤ 60000) (hle : val ys ≤ val xs) :
  Calls Try.prog 34 #[.agg #[.bool s, .slice A xs.length c], .agg #[.bool (!s), .slice B ys.length d]] w (RetI (ival s xs + ival (!s) ys) w) := by
 have hcap := h.cap
 have kcap := k.cap
 obtain ⟨hX, hY, hR, hB⟩ := box3 w (.bool s) (.slice A xs.length c) (.bool (!s)) (.slice B ys.length d) (.bool false) (.slice none 0 0) 25
 have HX := Lib.hid hX
 have HY := Lib.hid hY
 have HR := Lib.hid hR
 have HB := Lib.hid (hB)
 have H1 := Lib.hid (h.below HB.out)
 have H2 := Lib.hid (k.below HB.out)
 have hd := h.1
 have kd := k.1
 clear h k hX hY hR hB
 have n1 : ¬ w.heap.size = w.heap.size + 1 + 1 := by omega
 have n2 : ¬ w.heap.size + 1 + 1 = w.heap.size := by omega
 have HL := Lib.hid hle
 clear hle
 have hst : (s == !s) = false := by cases s <;> rfl
 go_enter Try.func34, Try.ntmps34
 go_wp2_with (first
  | (go_at_call_of 72 (Value.slice A xs.length c); go_loud (refine (rsub_any _ _ _ _ xs ys _ H1.out H2.out (by omega) (by omega)).mono ?_; intro e w1 h; obtain ⟨A1, c1, r1, rfl, q1, k1, v1, b1⟩ := h.2 HL.out; clear h; obtain ⟨x1, x2, _, _, _⟩ := HX.out.below b1; obtain ⟨z1, z2, _, _, _⟩ := HY.out.below b1; have l1 := len_less hd hl k1 v1; have HV := Lib.hid v1; clear v1))
  | (go_at_call 70; go_loud (refine (rsign_any s _ _ r1 _ q1 (by omega)).mono ?_; rintro e w2 ⟨A2, c2, s2, r2, rfl, q2, k2, v2, b2⟩; obtain ⟨y1, y2, y3, y4, _⟩ := (HR.out.below b1).below b2; have HV2 := Lib.hid v2; clear v2)))
 obtain ⟨e1, e2, _, _, _⟩ := (((HR.out.below b1).below b2).set (.bool s2) (.slice A2 r2.length c2))
 refine bodyPost_ret (v := .agg #[.bool s2, .slice A2 r2.length c2]) (by simp [results, Try.results34, go_sem, e1, e2]) rfl ?_
 refine RetI.box (by omega) ((HR.out.below b1).below b2) q2 k2 (HV2.out.trans ?_) ((HB.out.trans (b1.mono HB.out.size)).trans (b2.mono (HB.out.trans (b1.mono HB.out.size)).size))
 have hle := HL.out
 unfold ival
 rw [HV.out]
 cases s <;> simp <;> omega
set_option maxHeartbeats 1600000 in
theorem rbadd_less (s : Bool) (A B : Option Addr) (c d : Nat) (xs ys : List Nat) (w : World) (h : Us w A c xs) (k : Us w B d ys) (hl : xs.length ≤ 60000) (kl : ys.length ≤ 60000) (hle : val xs < val ys) :
  Calls Try.prog 34 #[.agg #[.bool s, .slice A xs.length c], .agg #[.bool (!s), .slice B ys.length d]] w (RetI (ival s xs + ival (!s) ys) w) := by
 have hcap := h.cap
 have kcap := k.cap
 obtain ⟨hX, hY, hR, hB⟩ := box3 w (.bool s) (.slice A xs.length c) (.bool (!s)) (.slice B ys.length d) (.bool false) (.slice none 0 0) 25
 have HX := Lib.hid hX
 have HY := Lib.hid hY
 have HR := Lib.hid hR
 have HB := Lib.hid (hB)
 have H1 := Lib.hid (h.below HB.out)
 have H2 := Lib.hid (k.below HB.out)
 have hd := h.1
 have kd := k.1
 clear h k hX hY hR hB
 have n1 : ¬ w.heap.size = w.heap.size + 1 + 1 := by omega
 have n2 : ¬ w.heap.size + 1 + 1 = w.heap.size := by omega
 have HL := Lib.hid hle
 clear hle
 have hst : (s == !s) = false := by cases s <;> rfl
 have tok0 : True := trivial
 go_enter Try.func34, Try.ntmps34
 go_wp2_with (first
  | (go_at_call 72; have _t := tok0; refine (rsub_any A B _ _ xs ys _ H1.out H2.out (by omega) (by omega)).mono ?_; intro e w1 h; obtain ⟨rfl, b1⟩ := h.1 HL.out; clear h tok0 _t; obtain ⟨x1, x2, _, _, _⟩ := HX.out.below b1; obtain ⟨z1, z2, _, _, _⟩ := HY.out.below b1)
  | (go_at_call 72; go_loud (refine (rsub_any B A _ _ ys xs _ (H2.out.below b1) (H1.out.below b1) (by omega) (by omega)).mono ?_; intro e w3 h; obtain ⟨A1, c1, r1, rfl, q1, k1, v1, b3⟩ := h.2 (Nat.le_of_lt HL.out); clear h x1 x2 z1 z2; obtain ⟨x1, x2, _, _, _⟩ := (HX.out.below b1).below b3; obtain ⟨z1, z2, _, _, _⟩ := (HY.out.below b1).below b3; have l1 := len_less kd kl k1 v1; have HV := Lib.hid v1; clear v1))
  | (go_at_call 70; go_loud (refine (rsign_any (!s) _ _ r1 _ q1 (by omega)).mono ?_; rintro e w2 ⟨A2, c2, s2, r2, rfl, q2, k2, v2, b2⟩; obtain ⟨y1, y2, y3, y4, _⟩ := ((HR.out.below b1).below b3).below b2; have HV2 := Lib.hid v2; clear v2)))
 obtain ⟨e1, e2, _, _, _⟩ := ((((HR.out.below b1).below b3).below b2).set (.bool s2) (.slice A2 r2.length c2))
 refine bodyPost_ret (v := .agg #[.bool s2, .slice A2 r2.length c2]) (by simp [results, Try.results34, go_sem, e1, e2]) rfl ?_
 have hb1 := HB.out.trans (b1.mono HB.out.size)
 have hb3 := hb1.trans (b3.mono hb1.size)
 refine RetI.box (by omega) (((HR.out.below b1).below b3).below b2) q2 k2 (HV2.out.trans ?_) (hb3.trans (b2.mono hb3.size))
 have hle := HL.out
 unfold ival
 rw [HV.out]
 cases s <;> simp <;> omega
theorem rbadd_any (s t : Bool) (A B : Option Addr) (c d : Nat) (xs ys : List Nat) (w : World) (h : Us w A c xs) (k : Us w B d ys) (hl : xs.length ≤ 60000) (kl : ys.length ≤ 60000) :
  Calls Try.prog 34 #[.agg #[.bool s, .slice A xs.length c], .agg #[.bool t, .slice B ys.length d]] w (RetI (ival s xs + ival t ys) w) := by
 by_cases hst : s = t
 ·
  subst hst
  exact rbadd_same s A B c d xs ys w h k hl kl
 ·
  obtain rfl : t = !s := by cases s <;> cases t <;> simp_all
  rcases Nat.lt_or_ge (val xs) (val ys) with hlt | hge
  ·
   exact rbadd_less s A B c d xs ys w h k hl kl hlt
  ·
   exact rbadd_more s A B c d xs ys w h k hl kl hge
end Go.Proofs.Ytlnmcilcifbcnaa

namespace Go.Proofs.Ytlnmcilcifbcnaa
open Go.RowKit Num
theorem us_pairI (W : World) (u v : Int) (U V : Nat) (t : TypeId) (hu : u = (U : Int)) (hv : v = (V : Int)) (lu : U < 4294967296) (lv : V < 4294967296) :
  Us (W.alloc (.cells #[.int .u32 u, .int .u32 v] t)) (some ⟨W.heap.size, 0, none⟩) 2 [U, V] := by
 subst hu hv
 exact us_pair W U V t lu lv
theorem us_pairJ (w : World) (o : Obj) (u v : Int) (U V : Nat) (t : TypeId) (hu : u = (U : Int)) (hv : v = (V : Int)) (lu : U < 4294967296) (lv : V < 4294967296) :
  Us ((w.alloc o).alloc (.cells #[.int .u32 u, .int .u32 v] t)) (some ⟨w.heap.size + 1, 0, none⟩) 2 [U, V] := by
 have h := us_pairI (w.alloc o) u v U V t hu hv lu lv
 have e : (w.alloc o).heap.size = w.heap.size + 1 := by simp
 rw [e] at h
 exact h
theorem wrap_min (n : Int) (h0 : -9223372036854775808 ≤ n) (h1 : n < 0) : IntKind.u64.wrap (-IntKind.u64.wrap n) = -n := by
 simp [IntKind.wrap, IntKind.bits, IntKind.signed]
 omega
theorem wrap_min_lo (n : Int) (m : Nat) (h0 : -9223372036854775808 ≤ n) (h1 : n < 0) (hm : m = n.natAbs) : IntKind.u64.wrap (-IntKind.u64.wrap n) % 4294967296 = ((m % 4294967296 : Nat) : Int) := by
 rw [wrap_min n h0 h1]
 omega
theorem wrap_min_hi (n : Int) (m : Nat) (h0 : -9223372036854775808 ≤ n) (h1 : n < 0) (hm : m = n.natAbs) : IntKind.u64.wrap (-IntKind.u64.wrap n) / 4294967296 % 4294967296 = ((m / 4294967296 : Nat) : Int) := by
 rw [wrap_min n h0 h1]
 omega
theorem wrap_min_lo2 (n : Int) (m : Nat) (h0 : -9223372036854775808 ≤ n) (h1 : n < 0) (hm : m = n.natAbs) : (IntKind.u64.wrap (-IntKind.u64.wrap n)).tmod 4294967296 % 4294967296 = ((m % 4294967296 : Nat) : Int) := by
 rw [wrap_min n h0 h1, Int.tmod_eq_emod_of_nonneg (by omega)]
 omega
theorem wrap_min_hi2 (n : Int) (m : Nat) (h0 : -9223372036854775808 ≤ n) (h1 : n < 0) (hm : m = n.natAbs) : IntKind.u64.wrap ((IntKind.u64.wrap (-IntKind.u64.wrap n)).tdiv 4294967296) % 4294967296 = ((m / 4294967296 : Nat) : Int) := by
 rw [wrap_min n h0 h1, Int.tdiv_eq_ediv_of_nonneg (by omega), IntWalk.u64_in _ (by omega)]
 omega
theorem val_two (m : Nat) : val [m % 4294967296, m / 4294967296] = m := by
 simp only [val]
 omega
theorem ival_int {n : Int} {m : Nat} {r : List Nat} (hm : m = n.natAbs) (h : val r = val [m % 4294967296, m / 4294967296]) : ival (decide (n < 0)) r = n := by
 rw [val_two] at h
 unfold ival
 rw [h]
 by_cases hn : n < 0 <;> simp [hn] <;> omega
set_option maxHeartbeats 1600000 in
theorem bof_any (n : Int) (w : World) (h0 : -9223372036854775808 ≤ n) (h1 : n ≤ 9223372036854775807) :
  Calls Try.prog 67 #[.int .i64 n] w (RetI n w) := by
 obtain ⟨m, hm⟩ : ∃ m, m = n.natAbs := ⟨_, rfl⟩
 have lu : m % 4294967296 < 4294967296 := Nat.mod_lt _ (by decide)
 have lv : m / 4294967296 < 4294967296 := by omega
 obtain ⟨hR, hB⟩ := box1 w (.bool false) (.slice none 0 0) 25
 have HR := Lib.hid hR
 have HB := Lib.hid hB
 have HM := Lib.hid hm
 clear hR hB
 by_cases hn : 0 ≤ n
 ·
  have HL := Lib.hid (show n % 4294967296 = ((m % 4294967296 : Nat) : Int) by omega)
  have HH := Lib.hid (show n / 4294967296 = ((m / 4294967296 : Nat) : Int) by omega)
  clear hm lu lv
  have HU := Lib.hid (us_pairJ w (.cells #[.bool false, .slice none 0 0] 25) _ _ _ _ 104 HL.out HH.out (Nat.mod_lt _ (by decide)) (by have := HM.out; omega))
  clear HL HH
  go_enter Try.func67, Try.ntmps67
  go_wp2_with (first
   | (go_at_call 90; go_loud (refine (norm_any _ _ [m % 4294967296, m / 4294967296] _ HU.out (by simp)).mono ?_; rintro e w1 ⟨A1, c1, r1, rfl, q1, k1, v1, b1⟩; obtain ⟨x1, x2, x3, x4, _⟩ := (HR.out.alloc _).below b1; have HV := Lib.hid v1; clear v1))
   | (go_at_call 89; refine (signed_any _ _ _ r1 _ q1 k1).mono ?_; rintro e w2 ⟨A2, c2, s2, r2, rfl, q2, k2, v2, b2⟩; obtain ⟨y1, y2, y3, y4, _⟩ := ((HR.out.alloc _).below b1).below b2; have HV2 := Lib.hid v2; clear v2))
  obtain ⟨e1, e2, _, _, _⟩ := ((((HR.out.alloc _).below b1).below b2).set (.bool s2) (.slice A2 r2.length c2))
  refine bodyPost_ret (v := .agg #[.bool s2, .slice A2 r2.length c2]) (by simp [results, Try.results67, go_sem, e1, e2]) rfl ?_
  have hb1 := (HB.out.alloc (by simp) _).trans (b1.mono (by simp <;> omega))
  exact RetI.box (by omega) (((HR.out.alloc _).below b1).below b2) q2 k2 (HV2.out.trans (ival_int HM.out HV.out)) (hb1.trans (b2.mono hb1.size))
 ·
  have HL := Lib.hid (wrap_min_lo n m h0 (by omega) hm)
  have HH := Lib.hid (wrap_min_hi n m h0 (by omega) hm)
  clear hm lu lv
  have HU := Lib.hid (us_pairJ w (.cells #[.bool false, .slice none 0 0] 25) _ _ _ _ 104 HL.out HH.out (Nat.mod_lt _ (by decide)) (by have := HM.out; omega))
  clear HL HH
  go_enter Try.func67, Try.ntmps67
  go_wp2_with (first
   | (go_at_call 90; go_loud (refine (norm_any _ _ [m % 4294967296, m / 4294967296] _ HU.out (by simp)).mono ?_; rintro e w1 ⟨A1, c1, r1, rfl, q1, k1, v1, b1⟩; obtain ⟨x1, x2, x3, x4, _⟩ := (HR.out.alloc _).below b1; have HV := Lib.hid v1; clear v1))
   | (go_at_call 89; refine (signed_any true _ _ r1 _ q1 k1).mono ?_; rintro e w2 ⟨A2, c2, s2, r2, rfl, q2, k2, v2, b2⟩; obtain ⟨y1, y2, y3, y4, _⟩ := ((HR.out.alloc _).below b1).below b2; have HV2 := Lib.hid v2; clear v2))
  obtain ⟨e1, e2, _, _, _⟩ := ((((HR.out.alloc _).below b1).below b2).set (.bool s2) (.slice A2 r2.length c2))
  refine bodyPost_ret (v := .agg #[.bool s2, .slice A2 r2.length c2]) (by simp [results, Try.results67, go_sem, e1, e2]) rfl ?_
  have hb1 := (HB.out.alloc (by simp) _).trans (b1.mono (by simp <;> omega))
  have hi := ival_int HM.out HV.out
  rw [decide_eq_true (by omega)] at hi
  exact RetI.box (by omega) (((HR.out.alloc _).below b1).below b2) q2 k2 (HV2.out.trans hi) (hb1.trans (b2.mono hb1.size))
set_option maxHeartbeats 1600000 in
theorem rbof_any (n : Int) (w : World) (h0 : -9223372036854775808 ≤ n) (h1 : n ≤ 9223372036854775807) :
  Calls Try.prog 32 #[.int .i64 n] w (RetI n w) := by
 obtain ⟨m, hm⟩ : ∃ m, m = n.natAbs := ⟨_, rfl⟩
 obtain ⟨hR, hB⟩ := box1 w (.bool false) (.slice none 0 0) 25
 have HR := Lib.hid hR
 have HB := Lib.hid hB
 have HM := Lib.hid hm
 clear hR hB
 by_cases hn : 0 ≤ n
 ·
  have HL := Lib.hid (show n % 4294967296 = ((m % 4294967296 : Nat) : Int) by omega)
  have HH := Lib.hid (show n / 4294967296 = ((m / 4294967296 : Nat) : Int) by omega)
  clear hm
  have HU := Lib.hid (us_pairJ w (.cells #[.bool false, .slice none 0 0] 25) _ _ _ _ 104 HL.out HH.out (Nat.mod_lt _ (by decide)) (by have := HM.out; omega))
  clear HL HH
  go_enter Try.func32, Try.ntmps32
  go_wp2_with (go_at_call 70; refine (rsign_any _ _ _ [m % 4294967296, m / 4294967296] _ HU.out (by simp)).mono ?_; rintro e w2 ⟨A2, c2, s2, r2, rfl, q2, k2, v2, b2⟩; obtain ⟨y1, y2, y3, y4, _⟩ := (HR.out.alloc _).below b2; have HV2 := Lib.hid v2; clear v2)
  obtain ⟨e1, e2, _, _, _⟩ := (((HR.out.alloc _).below b2).set (.bool s2) (.slice A2 r2.length c2))
  refine bodyPost_ret (v := .agg #[.bool s2, .slice A2 r2.length c2]) (by simp [results, Try.results32, go_sem, e1, e2]) rfl ?_
  exact RetI.box (by omega) ((HR.out.alloc _).below b2) q2 k2 (HV2.out.trans (ival_int HM.out rfl)) ((HB.out.alloc (by simp) _).trans (b2.mono (by simp <;> omega)))
 ·
  have HL := Lib.hid (wrap_min_lo2 n m h0 (by omega) hm)
  have HH := Lib.hid (wrap_min_hi2 n m h0 (by omega) hm)
  clear hm
  have HU := Lib.hid (us_pairJ w (.cells #[.bool false, .slice none 0 0] 25) _ _ _ _ 104 HL.out HH.out (Nat.mod_lt _ (by decide)) (by have := HM.out; omega))
  clear HL HH
  go_enter Try.func32, Try.ntmps32
  go_wp2_with (go_at_call 70; refine (rsign_any true _ _ [m % 4294967296, m / 4294967296] _ HU.out (by simp)).mono ?_; rintro e w2 ⟨A2, c2, s2, r2, rfl, q2, k2, v2, b2⟩; obtain ⟨y1, y2, y3, y4, _⟩ := (HR.out.alloc _).below b2; have HV2 := Lib.hid v2; clear v2)
  obtain ⟨e1, e2, _, _, _⟩ := (((HR.out.alloc _).below b2).set (.bool s2) (.slice A2 r2.length c2))
  refine bodyPost_ret (v := .agg #[.bool s2, .slice A2 r2.length c2]) (by simp [results, Try.results32, go_sem, e1, e2]) rfl ?_
  have hi := ival_int (n := n) HM.out rfl
  rw [decide_eq_true (by omega)] at hi
  exact RetI.box (by omega) ((HR.out.alloc _).below b2) q2 k2 (HV2.out.trans hi) ((HB.out.alloc (by simp) _).trans (b2.mono (by simp <;> omega)))
end Go.Proofs.Ytlnmcilcifbcnaa

namespace Go.Proofs.Ytlnmcilcifbcnaa
open Go.RowKit Num
theorem val_ival (s : Bool) (r : List Nat) : val r = (ival s r).natAbs := by
 unfold ival
 cases s <;> simp
theorem len_ival {s : Bool} {r : List Nat} {n : Int} (hc : CanonI s r) (hv : ival s r = n) (k : Nat) (hn : n.natAbs < 4294967296 ^ k) : r.length ≤ k :=
 len_le hc.1 (by rw [val_ival s r, hv]; exact hn)
theorem abs_of_len {s : Bool} {xs : List Nat} (hd : Dig xs) {k : Nat} (hl : xs.length ≤ k) : (ival s xs).natAbs < 4294967296 ^ k := by
 rw [← val_ival]
 exact Nat.lt_of_lt_of_le (val_lt hd) (Nat.pow_le_pow_right (by decide) hl)
theorem len_neg {s t : Bool} {r ys : List Nat} (kd : Dig ys) (hc : CanonI s r) (hv : ival s r = -ival t ys) : r.length ≤ ys.length :=
 len_ival hc hv _ (by rw [Int.natAbs_neg, ← val_ival]; exact val_lt kd)
theorem ret_int {k : IntKind} {a b : Int} (h : a = b) : Ending.returned (.int k a) = .returned (.int k b) := by rw [h]
def ordI (a b : Int) : Int := if a < b then -1 else if a = b then 0 else 1
set_option maxHeartbeats 1600000 in
theorem bsub_any (s t : Bool) (A B : Option Addr) (c d : Nat) (xs ys : List Nat) (w : World) (h : Us w A c xs) (k : Us w B d ys) (hl : xs.length ≤ 60000) (kl : ys.length ≤ 60000) :
  Calls Try.prog 88 #[.agg #[.bool s, .slice A xs.length c], .agg #[.bool t, .slice B ys.length d]] w (RetI (ival s xs - ival t ys) w) := by
 have hcap := h.cap
 have kcap := k.cap
 obtain ⟨hX, hY, hR, hB⟩ := box3 w (.bool s) (.slice A xs.length c) (.bool t) (.slice B ys.length d) (.bool false) (.slice none 0 0) 25
 have HX := Lib.hid hX.drew
 have HY := Lib.hid hY.drew
 have HR := Lib.hid hR.drew
 have HB := Lib.hid (Below.drew' hB)
 have H1 := Lib.hid (h.below HB.out)
 have H2 := Lib.hid (k.below HB.out)
 have kd := k.1
 clear h k hX hY hR hB
 have n1 : ¬ w.heap.size = w.heap.size + 1 + 1 := by omega
 have n2 : ¬ w.heap.size + 1 + 1 = w.heap.size := by omega
 go_enter Try.func88, Try.ntmps88
 go_wp2_with fail
 go_region_held3 (fun w' => w'.cell? ⟨w.heap.size, 0, none⟩ = some (.bool s) ∧ w'.cell? ⟨w.heap.size, 1, none⟩ = some (.slice A xs.length c) ∧ w'.cell? ⟨w.heap.size + 1, 0, none⟩ = some (.bool t) ∧ w'.cell? ⟨w.heap.size + 1, 1, none⟩ = some (.slice B ys.length d))
  (first | go_keep | fail)
  (first
   | (go_at_call 110; refine (minus_any t _ _ ys _ H2.out (by omega)).mono ?_; rintro e w1 ⟨A1, c1, s1, r1, rfl, q1, k1, v1, b1⟩; obtain ⟨x1, x2, _, _, _⟩ := HX.out.below b1; obtain ⟨z1, z2, _, _, _⟩ := HY.out.below b1; have l1 : r1.length ≤ 60000 := Nat.le_trans (len_neg kd k1 v1) kl)
   | (go_at_call 79; refine (badd_any s s1 _ _ _ _ xs r1 _ (H1.out.below b1) q1 hl l1).mono ?_; rintro e w2 ⟨A2, c2, s2, r2, rfl, q2, k2, v2, b2⟩; obtain ⟨x1, x2, _, _, _⟩ := (HX.out.below b1).below b2; obtain ⟨z1, z2, _, _, _⟩ := (HY.out.below b1).below b2; obtain ⟨y1, y2, y3, y4, _⟩ := (HR.out.below b1).below b2))
 go_wp2
 obtain ⟨e1, e2, _, _, _⟩ := (((HR.out.below b1).below b2).set (.bool s2) (.slice A2 r2.length c2))
 refine bodyPost_ret (v := .agg #[.bool s2, .slice A2 r2.length c2]) (by simp [results, Try.results88, go_sem, e1, e2]) rfl ?_
 exact RetI.box (by omega) ((HR.out.below b1).below b2) q2 k2 (by rw [v2, v1, Int.sub_eq_add_neg]) ((HB.out.trans (b1.mono HB.out.size)).trans (b2.mono (HB.out.trans (b1.mono HB.out.size)).size))
set_option maxHeartbeats 1600000 in
theorem rbsub_any (s t : Bool) (A B : Option Addr) (c d : Nat) (xs ys : List Nat) (w : World) (h : Us w A c xs) (k : Us w B d ys) (hl : xs.length ≤ 60000) (kl : ys.length ≤ 60000) :
  Calls Try.prog 33 #[.agg #[.bool s, .slice A xs.length c], .agg #[.bool t, .slice B ys.length d]] w (RetI (ival s xs - ival t ys) w) := by
 have hcap := h.cap
 have kcap := k.cap
 obtain ⟨hX, hY, hR, hB⟩ := box3 w (.bool s) (.slice A xs.length c) (.bool t) (.slice B ys.length d) (.bool false) (.slice none 0 0) 25
 have HX := Lib.hid hX.drew
 have HY := Lib.hid hY.drew
 have HR := Lib.hid hR.drew
 have HB := Lib.hid (Below.drew' hB)
 have H1 := Lib.hid (h.below HB.out)
 have H2 := Lib.hid (k.below HB.out)
 have kd := k.1
 clear h k hX hY hR hB
 have n1 : ¬ w.heap.size = w.heap.size + 1 + 1 := by omega
 have n2 : ¬ w.heap.size + 1 + 1 = w.heap.size := by omega
 go_enter Try.func33, Try.ntmps33
 go_wp2_with fail
 go_region_held3 (fun w' => w'.cell? ⟨w.heap.size, 0, none⟩ = some (.bool s) ∧ w'.cell? ⟨w.heap.size, 1, none⟩ = some (.slice A xs.length c) ∧ w'.cell? ⟨w.heap.size + 1, 0, none⟩ = some (.bool t) ∧ w'.cell? ⟨w.heap.size + 1, 1, none⟩ = some (.slice B ys.length d))
  (first | go_keep | fail)
  (first
   | (go_at_call 66; refine (rminus_any t _ _ ys _ H2.out (by omega)).mono ?_; rintro e w1 ⟨A1, c1, s1, r1, rfl, q1, k1, v1, b1⟩; obtain ⟨x1, x2, _, _, _⟩ := HX.out.below b1; obtain ⟨z1, z2, _, _, _⟩ := HY.out.below b1; have l1 : r1.length ≤ 60000 := Nat.le_trans (len_neg kd k1 v1) kl)
   | (go_at_call 34; refine (rbadd_any s s1 _ _ _ _ xs r1 _ (H1.out.below b1) q1 hl l1).mono ?_; rintro e w2 ⟨A2, c2, s2, r2, rfl, q2, k2, v2, b2⟩; obtain ⟨x1, x2, _, _, _⟩ := (HX.out.below b1).below b2; obtain ⟨z1, z2, _, _, _⟩ := (HY.out.below b1).below b2; obtain ⟨y1, y2, y3, y4, _⟩ := (HR.out.below b1).below b2))
 go_wp2
 obtain ⟨e1, e2, _, _, _⟩ := (((HR.out.below b1).below b2).set (.bool s2) (.slice A2 r2.length c2))
 refine bodyPost_ret (v := .agg #[.bool s2, .slice A2 r2.length c2]) (by simp [results, Try.results33, go_sem, e1, e2]) rfl ?_
 exact RetI.box (by omega) ((HR.out.below b1).below b2) q2 k2 (by rw [v2, v1, Int.sub_eq_add_neg]) ((HB.out.trans (b1.mono HB.out.size)).trans (b2.mono (HB.out.trans (b1.mono HB.out.size)).size))
set_option maxHeartbeats 1600000 in
theorem bpow_any (n : Int) (w : World) :
  Calls Try.prog 78 #[.int .i64 n] w (RetI (shlI 1 n) w) := by
 obtain ⟨hR, hB⟩ := box1 w (.bool false) (.slice none 0 0) 25
 have HR := Lib.hid hR
 have HB := Lib.hid hB
 clear hR hB
 go_enter Try.func78, Try.ntmps78
 go_wp2_with (first
  | (go_at_call 67; refine (bof_any 1 _ (by decide) (by decide)).mono ?_; rintro e w1 ⟨A1, c1, s1, r1, rfl, q1, k1, v1, b1⟩; have l1 : r1.length ≤ 1 := len_ival k1 v1 1 (by decide); have HV := Lib.hid v1; clear v1)
  | (go_at_call 100; refine (bshl_any s1 _ _ r1 n _ q1 (by omega)).mono ?_; rintro e w2 ⟨A2, c2, s2, r2, rfl, q2, k2, v2, b2⟩; obtain ⟨y1, y2, y3, y4, _⟩ := (HR.out.below b1).below b2; have HV2 := Lib.hid v2; clear v2))
 obtain ⟨e1, e2, _, _, _⟩ := (((HR.out.below b1).below b2).set (.bool s2) (.slice A2 r2.length c2))
 refine bodyPost_ret (v := .agg #[.bool s2, .slice A2 r2.length c2]) (by simp [results, Try.results78, go_sem, e1, e2]) rfl ?_
 exact RetI.box (by omega) ((HR.out.below b1).below b2) q2 k2 (by rw [HV2.out, HV.out]) ((HB.out.trans (b1.mono HB.out.size)).trans (b2.mono (HB.out.trans (b1.mono HB.out.size)).size))
set_option maxHeartbeats 1600000 in
theorem rbpow_any (n : Int) (w : World) :
  Calls Try.prog 36 #[.int .i64 n] w (RetI (shlI 1 n) w) := by
 obtain ⟨hR, hB⟩ := box1 w (.bool false) (.slice none 0 0) 25
 have HR := Lib.hid hR
 have HB := Lib.hid hB
 clear hR hB
 go_enter Try.func36, Try.ntmps36
 go_wp2_with (first
  | (go_at_call 32; refine (rbof_any 1 _ (by decide) (by decide)).mono ?_; rintro e w1 ⟨A1, c1, s1, r1, rfl, q1, k1, v1, b1⟩; have l1 : r1.length ≤ 1 := len_ival k1 v1 1 (by decide); have HV := Lib.hid v1; clear v1)
  | (go_at_call 73; refine (rbshl_any s1 _ _ r1 n _ q1 (by omega)).mono ?_; rintro e w2 ⟨A2, c2, s2, r2, rfl, q2, k2, v2, b2⟩; obtain ⟨y1, y2, y3, y4, _⟩ := (HR.out.below b1).below b2; have HV2 := Lib.hid v2; clear v2))
 obtain ⟨e1, e2, _, _, _⟩ := (((HR.out.below b1).below b2).set (.bool s2) (.slice A2 r2.length c2))
 refine bodyPost_ret (v := .agg #[.bool s2, .slice A2 r2.length c2]) (by simp [results, Try.results36, go_sem, e1, e2]) rfl ?_
 exact RetI.box (by omega) ((HR.out.below b1).below b2) q2 k2 (by rw [HV2.out, HV.out]) ((HB.out.trans (b1.mono HB.out.size)).trans (b2.mono (HB.out.trans (b1.mono HB.out.size)).size))
theorem ord_of {s : Bool} {r : List Nat} {a b : Int} (hc : CanonI s r) (hv : ival s r = a - b) :
  (r.length = 0 → ordI a b = 0) ∧ (r.length ≠ 0 → s = true → ordI a b = -1) ∧ (r.length ≠ 0 → s = false → ordI a b = 1) := by
 refine ⟨fun h => ?_, fun h hs => ?_, fun h hs => ?_⟩
 ·
  obtain rfl := List.eq_nil_of_length_eq_zero h
  rw [ival_nil] at hv
  unfold ordI
  rw [if_neg (by omega), if_pos (by omega)]
 ·
  subst hs
  have : val r ≠ 0 := fun e => hc.2 rfl (canon_zero hc.1 e)
  unfold ival at hv
  simp only [if_true] at hv
  unfold ordI
  rw [if_pos (by omega)]
 ·
  subst hs
  have : val r ≠ 0 := fun e => h (by rw [canon_zero hc.1 e]; rfl)
  unfold ival at hv
  simp only [Bool.false_eq_true, if_false] at hv
  unfold ordI
  rw [if_neg (by omega), if_neg (by omega)]
theorem cmp_nn {xs ys : List Nat} : cmpN (val ys) (val xs) = ordI (ival true xs) (ival true ys) := by
 unfold cmpN ordI ival
 simp only [if_true]
 split <;> split <;> (try split) <;> (try split) <;> omega
theorem cmp_pp {xs ys : List Nat} : cmpN (val xs) (val ys) = ordI (ival false xs) (ival false ys) := by
 unfold cmpN ordI ival
 simp only [Bool.false_eq_true, if_false]
 split <;> split <;> (try split) <;> (try split) <;> omega
set_option maxHeartbeats 1600000 in
theorem bcmp_any (s t : Bool) (A B : Option Addr) (c d : Nat) (xs ys : List Nat) (w : World) (h : Us w A c xs) (k : Us w B d ys) (hl : xs.length ≤ 60000) (kl : ys.length ≤ 60000) (hc : CanonI s xs) (kc : CanonI t ys) :
  Calls Try.prog 68 #[.agg #[.bool s, .slice A xs.length c], .agg #[.bool t, .slice B ys.length d]] w fun e w' => e = .returned (.int .i64 (ordI (ival s xs) (ival t ys))) ∧ Below w.heap.size w w' := by
 have hcap := h.cap
 have kcap := k.cap
 obtain ⟨hX, hY, hB⟩ := box2 w (.bool s) (.slice A xs.length c) (.bool t) (.slice B ys.length d) 25
 have HB := Lib.hid hB
 have H1 := Lib.hid (h.below HB.out)
 have H2 := Lib.hid (k.below HB.out)
 obtain ⟨z, hz⟩ : ∃ z, z = ordI (ival s xs) (ival t ys) := ⟨_, rfl⟩
 rw [← hz]
 have HZ := Lib.hid hz
 clear h k hX hY hB hz
 cases s <;> cases t
 ·
  go_enter Try.func68, Try.ntmps68
  go_wp2_with (go_at_call 91; refine (cmp_any _ _ _ _ xs ys _ H1.out H2.out (by omega) (by omega)).mono ?_; rintro e w1 ⟨rfl, b⟩; rw [cmp_pp, ← HZ.out])
  go_ret
  exact ⟨rfl, HB.out.trans (b.mono HB.out.size)⟩
 ·
  go_enter Try.func68, Try.ntmps68
  go_wp2_with fail
  go_ret
  refine ⟨ret_int ?_, HB.out⟩
  rw [HZ.out]
  have := kc.2 rfl
  have h2 : val ys ≠ 0 := fun e => this (canon_zero kc.1 e)
  unfold ordI ival
  simp only [if_true, Bool.false_eq_true, if_false]
  rw [if_neg (by omega), if_neg (by omega)]
 ·
  go_enter Try.func68, Try.ntmps68
  go_wp2_with fail
  go_ret
  refine ⟨ret_int ?_, HB.out⟩
  rw [HZ.out]
  have := hc.2 rfl
  have h2 : val xs ≠ 0 := fun e => this (canon_zero hc.1 e)
  unfold ordI ival
  simp only [if_true, Bool.false_eq_true, if_false]
  rw [if_pos (by omega)]
 ·
  go_enter Try.func68, Try.ntmps68
  go_wp2_with (go_at_call 91; refine (cmp_any _ _ _ _ ys xs _ H2.out H1.out (by omega) (by omega)).mono ?_; rintro e w1 ⟨rfl, b⟩; rw [cmp_nn, ← HZ.out])
  go_ret
  exact ⟨rfl, HB.out.trans (b.mono HB.out.size)⟩
set_option maxHeartbeats 1600000 in
theorem rbcmp_any (s t : Bool) (A B : Option Addr) (c d : Nat) (xs ys : List Nat) (w : World) (h : Us w A c xs) (k : Us w B d ys) (hl : xs.length ≤ 60000) (kl : ys.length ≤ 60000) :
  Calls Try.prog 35 #[.agg #[.bool s, .slice A xs.length c], .agg #[.bool t, .slice B ys.length d]] w fun e w' => e = .returned (.int .i64 (ordI (ival s xs) (ival t ys))) ∧ Below w.heap.size w w' := by
 have hcap := h.cap
 have kcap := k.cap
 obtain ⟨hX, hY, hB⟩ := box2 w (.bool s) (.slice A xs.length c) (.bool t) (.slice B ys.length d) 25
 have HB := Lib.hid hB
 have H1 := Lib.hid (h.below HB.out)
 have H2 := Lib.hid (k.below HB.out)
 obtain ⟨z, hz⟩ : ∃ z, z = ordI (ival s xs) (ival t ys) := ⟨_, rfl⟩
 rw [← hz]
 have HZ := Lib.hid hz
 clear h k hX hY hB hz
 go_enter Try.func35, Try.ntmps35
 go_wp2_with (go_at_call 33; refine (rbsub_any s t _ _ _ _ xs ys _ H1.out H2.out hl kl).mono ?_; rintro e w1 ⟨A1, c1, s1, r1, rfl, q1, k1, v1, b1⟩; have HV := Lib.hid v1; have rcap := q1.cap; clear v1)
 ·
  go_ret
  have h0 : ((r1.length : Int) == 0) = true := by assumption
  exact ⟨ret_int (by rw [HZ.out]; exact ((ord_of k1 HV.out).1 (by rw [beq_iff_eq] at h0; omega)).symm), (HB.out.trans (b1.mono HB.out.size)).alloc (Nat.le_trans HB.out.size b1.size) _⟩
 ·
  go_ret
  have h0 : ((r1.length : Int) == 0) = false := by assumption
  have h1 : s1 = true := by assumption
  exact ⟨ret_int (by rw [HZ.out]; exact ((ord_of k1 HV.out).2.1 (by rw [beq_eq_false_iff_ne] at h0; omega) h1).symm), (HB.out.trans (b1.mono HB.out.size)).alloc (Nat.le_trans HB.out.size b1.size) _⟩
 ·
  go_ret
  have h0 : ((r1.length : Int) == 0) = false := by assumption
  have h1 : s1 = false := by assumption
  exact ⟨ret_int (by rw [HZ.out]; exact ((ord_of k1 HV.out).2.2 (by rw [beq_eq_false_iff_ne] at h0; omega) h1).symm), (HB.out.trans (b1.mono HB.out.size)).alloc (Nat.le_trans HB.out.size b1.size) _⟩
end Go.Proofs.Ytlnmcilcifbcnaa

namespace Go.Proofs.Ytlnmcilcifbcnaa
open Go.RowKit Num
theorem len_nz (n : Nat) : ((n : Int) == 0) = !decide (0 < n) := by
 cases n with
 | zero => rfl
 | succ n =>
  rw [beq_eq_false_iff_ne.2 (by omega), decide_eq_true (by omega)]
  rfl
def rightI (s : Bool) (xs : List Nat) : Bool := rightB xs && (!s || decide (0 < xs.length))
set_option maxHeartbeats 1600000 in
theorem rbright_any (s : Bool) (A : Option Addr) (c : Nat) (xs : List Nat) (w : World) (h : Us w A c xs) (hl : xs.length ≤ 60000) :
  Calls Try.prog 13 #[.agg #[.bool s, .slice A xs.length c]] w fun e w' => e = .returned (.bool (rightI s xs)) ∧ Below w.heap.size w w' := by
 have hcap := h.cap
 obtain ⟨hX, hB⟩ := box1 w (.bool s) (.slice A xs.length c) 25
 have HB := Lib.hid hB
 have H1 := Lib.hid (h.below HB.out)
 obtain ⟨b, hb⟩ : ∃ b, b = rightB xs := ⟨_, rfl⟩
 unfold rightI
 rw [← hb]
 have HR := Lib.hid hb
 clear h hX hB hb
 cases b <;> cases s
 all_goals
  go_enter Try.func13, Try.ntmps13
  go_wp2_with (go_at_call 38; refine (rright_any _ _ xs _ H1.out (by omega)).mono ?_; rintro e w' ⟨rfl, rfl⟩; rw [← HR.out])
  go_ret
  exact ⟨by simp [len_nz], HB.out⟩
set_option maxHeartbeats 800000 in
theorem equal_any (A B : Option Addr) (c d : Nat) (xs ys : List Nat) (w : World) (h : Us w A c xs) (k : Us w B d ys) (hx : xs.length ≤ 1000000) :
  Calls Try.prog 92 #[.slice A xs.length c, .slice B ys.length d] w fun e w' => e = .returned (.bool (decide (xs = ys))) ∧ Below w.heap.size w w' := by
 obtain ⟨r, hr⟩ : ∃ r, r = decide (xs = ys) := ⟨_, rfl⟩
 rw [← hr]
 have HR := Lib.hid hr
 clear hr
 by_cases hl : xs.length = ys.length
 ·
  by_cases h0 : 0 < xs.length
  ·
   obtain ⟨b, off, rfl, hb, hc⟩ := h.at_ h0
   obtain ⟨b2, off2, rfl, hb2, hc2⟩ := k.at_ (by omega)
   clear h k
   obtain ⟨n, hn⟩ : ∃ n, n = xs.length := ⟨_, rfl⟩
   rw [← hl, ← hn]
   have HC := Lib.hid hc
   have HC2 := Lib.hid hc2
   have HL := Lib.hid hl
   have HN := Lib.hid hn
   have hn1 : n ≤ 1000000 := by omega
   clear hc hc2 hl hn h0 hx
   go_enter Try.func92, Try.ntmps92
   go_wp2
   go_loopw [13] (fun i wr => ∃ k : Nat, k ≤ n ∧ i = .int .i64 k ∧ (∀ j, j < k → xs[j]?.getD 0 = ys[j]?.getD 0) ∧ Below w.heap.size w wr) (fun i _ => n - (intOf i).toNat)
   case atStart => exact ⟨0, by omega, rfl, fun j hj => by omega, Below.refl _ _⟩
   case round =>
    obtain ⟨k, hk, rfl, hall, hbw⟩ := hrel
    have HA := Lib.hid hall
    clear hall
    by_cases hlt : k < n
    ·
     have e1 := (hbw.cell (p := ⟨b, off + k, none⟩) hb).trans (HC.out k (by rw [← HN.out]; exact hlt))
     have e2 := (hbw.cell (p := ⟨b2, off2 + k, none⟩) hb2).trans (HC2.out k (by rw [← HL.out, ← HN.out]; exact hlt))
     obtain ⟨x, hxe⟩ : ∃ x, x = xs[k]?.getD 0 := ⟨_, rfl⟩
     obtain ⟨y, hye⟩ : ∃ y, y = ys[k]?.getD 0 := ⟨_, rfl⟩
     rw [← hxe] at e1
     rw [← hye] at e2
     have HX := Lib.hid hxe
     have HY := Lib.hid hye
     clear hxe hye
     have i1 : (k : Int) < (n : Int) := by omega
     by_cases hxy : x = y
     ·
      subst hxy
      go_wp2
      go_quiet (fail)
      go_wp2
      go_roundw
      case rel =>
       refine ⟨k + 1, by omega, by go_num, fun j hj => ?_, below_drewN hbw _⟩
       rcases Nat.lt_or_ge j k with h1 | h1
       ·
        exact HA.out j h1
       ·
        have : j = k := by omega
        subst this
        rw [← HX.out, ← HY.out]
      case measure => simp [intOf]; omega
     ·
      have t1 : ((x : Int) != (y : Int)) = true := by rw [bne_iff_ne]; omega
      clear hxy
      go_wp2
      go_quiet (fail)
      go_wp2
      go_ret
      refine ⟨?_, below_drewN hbw _⟩
      have : r = false := by
       rw [HR.out]
       refine decide_eq_false fun e => ?_
       have := HX.out
       rw [e, ← HY.out] at this
       subst this
       simp at t1
      rw [this]; rfl
    ·
     obtain rfl : k = n := by omega
     go_wp2
     go_ret
     refine ⟨?_, hbw⟩
     have : r = true := by
      rw [HR.out]
      exact decide_eq_true (same_lists HL.out (by rw [← HN.out]; exact HA.out))
     rw [this]; rfl
  ·
   have e1 : xs.length = 0 := by omega
   have e2 : ys.length = 0 := by omega
   have : r = true := by
    rw [HR.out]
    exact decide_eq_true ((List.eq_nil_of_length_eq_zero e1).trans (List.eq_nil_of_length_eq_zero e2).symm)
   rw [e1, e2, this]
   clear HR h k h0 hx hl e1 e2 this
   go_enter Try.func92, Try.ntmps92
   go_wp2
   refine wp_loop_rounds 1 ?_
   rw [rounds_succ]
   go_wp2
   go_ret
   exact ⟨rfl, Below.refl _ _⟩
 ·
  have : r = false := by
   rw [HR.out]
   exact decide_eq_false fun e => hl (by rw [e])
  rw [this]
  clear HR this h k
  have t1 : ((xs.length : Int) != (ys.length : Int)) = true := by rw [bne_iff_ne]; omega
  clear hl
  generalize xs.length = n at *
  generalize ys.length = m at *
  go_enter Try.func92, Try.ntmps92
  go_wp2
  go_ret
  exact ⟨rfl, Below.refl _ _⟩
set_option maxHeartbeats 1600000 in
theorem bsame_any (s t : Bool) (A B : Option Addr) (c d : Nat) (xs ys : List Nat) (w : World) (h : Us w A c xs) (k : Us w B d ys) (hl : xs.length ≤ 1000000) :
  Calls Try.prog 69 #[.agg #[.bool s, .slice A xs.length c], .agg #[.bool t, .slice B ys.length d]] w fun e w' => e = .returned (.bool (decide (s = t ∧ xs = ys))) ∧ Below w.heap.size w w' := by
 have hcap := h.cap
 have kcap := k.cap
 obtain ⟨hX, hY, hB⟩ := box2 w (.bool s) (.slice A xs.length c) (.bool t) (.slice B ys.length d) 25
 have HX := Lib.hid hX.drew
 have HY := Lib.hid hY.drew
 have HB := Lib.hid hB
 have H1 := Lib.hid (h.below HB.out)
 have H2 := Lib.hid (k.below HB.out)
 obtain ⟨z, hz⟩ : ∃ z, z = decide (xs = ys) := ⟨_, rfl⟩
 have hzz : decide (s = t ∧ xs = ys) = (decide (s = t) && z) := by rw [hz]; simp
 rw [hzz]
 have HZ := Lib.hid hz
 clear h k hX hY hB hz hzz
 cases s <;> cases t
 all_goals
  go_enter Try.func69, Try.ntmps69
  go_wp2_with (go_at_call 92; refine (equal_any _ _ _ _ xs ys _ H1.out H2.out hl).mono ?_; rintro e w1 ⟨rfl, b1⟩; rw [← HZ.out])
  go_ret
  first | exact ⟨by simp, HB.out.trans (b1.mono HB.out.size)⟩ | exact ⟨by simp, HB.out⟩
set_option maxHeartbeats 1600000 in
theorem rbsame_any (s t : Bool) (A B : Option Addr) (c d : Nat) (xs ys : List Nat) (w : World) (h : Us w A c xs) (k : Us w B d ys) (hl : xs.length ≤ 1000000) :
  Calls Try.prog 22 #[.agg #[.bool s, .slice A xs.length c], .agg #[.bool t, .slice B ys.length d]] w fun e w' => e = .returned (.bool (decide (s = t ∧ xs = ys))) ∧ Below w.heap.size w w' := by
 have hcap := h.cap
 have kcap := k.cap
 obtain ⟨hX, hY, hB⟩ := box2 w (.bool s) (.slice A xs.length c) (.bool t) (.slice B ys.length d) 25
 have HX := Lib.hid hX.drew
 have HY := Lib.hid hY.drew
 have HB := Lib.hid hB
 have H1 := Lib.hid (h.below HB.out)
 have H2 := Lib.hid (k.below HB.out)
 obtain ⟨z, hz⟩ : ∃ z, z = decide (xs = ys) := ⟨_, rfl⟩
 have hzz : decide (s = t ∧ xs = ys) = (decide (s = t) && z) := by rw [hz]; simp
 rw [hzz]
 have HZ := Lib.hid hz
 clear h k hX hY hB hz hzz
 cases s <;> cases t
 all_goals
  go_enter Try.func22, Try.ntmps22
  go_wp2_with (go_at_call 59; refine (same_any _ _ _ _ xs ys _ H1.out H2.out hl).mono ?_; rintro e w1 ⟨rfl, b1⟩; rw [← HZ.out])
  go_ret
  first | exact ⟨by simp, HB.out.trans (b1.mono HB.out.size)⟩ | exact ⟨by simp, HB.out⟩
end Go.Proofs.Ytlnmcilcifbcnaa

namespace Go.Proofs.Ytlnmcilcifbcnaa
open Go.RowKit Num
theorem Us.alloc {w : World} {A : Option Addr} {c : Nat} {xs : List Nat} (h : Us w A c xs) (o : Obj) : Us (w.alloc o) A c xs := h.below ((Below.refl _ w).alloc (Nat.le_refl _) o)
def ShrCut (w : World) (s : Bool) (A : Option Addr) (c m : Nat) (z : Int) (k : Nat) (s5 : Value) (wx : World) : Prop :=
 ∃ g A2 c2 s2 r2, s5 = .pointer (some ⟨g, 0, none⟩) ∧ Us wx A2 c2 r2 ∧ CanonI s2 r2 ∧ ival s2 r2 = z ∧ r2.length ≤ k ∧ Box wx g (.bool s2) (.slice A2 r2.length c2) ∧ Box wx w.heap.size (.bool s) (.slice A m c) ∧ Box wx (w.heap.size + 1) (.bool false) (.slice none 0 0) ∧ w.heap.size + 1 < g ∧ Below w.heap.size w wx
theorem Box.far {w : World} {g g' o : Nat} {x y : Value} (h : Box w g x y) (hne : g ≠ g') (v : Value) : Box (w.setCell ⟨g', o, none⟩ v) g x y := by
 obtain ⟨h1, h2, h3, h4, h5⟩ := h
 refine ⟨?_, ?_, ?_, ?_, by simpa using h5⟩
 ·
  rw [World.cell?_setCell_other _ _ _ _ (by simp [Ne.symm hne])]; exact h1
 ·
  rw [World.cell?_setCell_other _ _ _ _ (by simp [Ne.symm hne])]; exact h2
 ·
  rw [World.frozen?_setCell]; exact h3
 ·
  rw [World.frozen?_setCell]; exact h4
theorem ShrCut.alloc {w w2 : World} {s s2 : Bool} {A A2 : Option Addr} {c c2 m k : Nat} {z : Int} {r2 : List Nat} (hb : Below w.heap.size w w2) (hX : Box w2 w.heap.size (.bool s) (.slice A m c)) (hR : Box w2 (w.heap.size + 1) (.bool false) (.slice none 0 0))
  (q2 : Us w2 A2 c2 r2) (k2 : CanonI s2 r2) (v2 : ival s2 r2 = z) (hl : r2.length ≤ k) (t : TypeId) : ShrCut w s A c m z k (.pointer (some ⟨w2.heap.size, 0, none⟩)) (w2.alloc (.cells #[.bool s2, .slice A2 r2.length c2] t)) :=
 ⟨_, A2, c2, s2, r2, rfl, q2.alloc _, k2, v2, hl, Box.new _ _ _ _, hX.alloc _, hR.alloc _, hR.2.2.2.2, hb.alloc hb.size _⟩
theorem ShrCut.set {w w2 : World} {s s2 s0 : Bool} {A A2 A0 : Option Addr} {c c2 m k g n0 c0 : Nat} {z : Int} {r2 : List Nat} (hb : Below w.heap.size w w2) (hX : Box w2 w.heap.size (.bool s) (.slice A m c)) (hR : Box w2 (w.heap.size + 1) (.bool false) (.slice none 0 0))
  (hg : w.heap.size + 1 < g) (hQ : Box w2 g (.bool s0) (.slice A0 n0 c0)) (q2 : Us w2 A2 c2 r2) (k2 : CanonI s2 r2) (v2 : ival s2 r2 = z) (hl : r2.length ≤ k) :
  ShrCut w s A c m z k (.pointer (some ⟨g, 0, none⟩)) ((w2.setCell ⟨g, 0, none⟩ (.bool s2)).setCell ⟨g, 1, none⟩ (.slice A2 r2.length c2)) :=
 ⟨g, A2, c2, s2, r2, rfl, q2.boxed hQ _ _, k2, v2, hl, hQ.set _ _, (hX.far (by omega) _).far (by omega) _, (hR.far (by omega) _).far (by omega) _, hg, (hb.setCell (p := ⟨g, 0, none⟩) (by simp; omega) _).setCell (p := ⟨g, 1, none⟩) (by simp; omega) _⟩
end Go.Proofs.Ytlnmcilcifbcnaa

namespace Go.Proofs.Ytlnmcilcifbcnaa.Nds
theorem each_congr {x : Nd} {p q : Int → Bool} (h : ∀ i, i < 4 → p (x.kid i) = q (x.kid i)) : x.each p = x.each q := by
 have h0 : p x.a = q x.a := h 0 (by omega)
 have h1 : p x.b = q x.b := h 1 (by omega)
 have h2 : p x.c = q x.c := h 2 (by omega)
 have h3 : p x.d = q x.d := h 3 (by omega)
 unfold Nd.each
 rw [h0, h1, h2, h3]
theorem each_no {x : Nd} {p : Int → Bool} {i : Nat} (hi : i < 4) (h : p (x.kid i) = false) : x.each p = false := by
 cases hq : x.each p
 ·
  rfl
 ·
  have := each_iff.1 hq i hi
  rw [h] at this
  cases this
def nodeE (es : List Bool) (x : Nd) : Bool := x.each fun c => c == 0 || (decide (1 < x.lv) && es.getD c.toNat false)
def emps (l : List Nd) : List Bool := l.foldl (fun es x => es ++ [nodeE es x]) [true]
def empB (l : List Nd) (n : Nat) : Bool := (emps l).getD n false
def nodeEmp (l : List Nd) (x : Nd) : Bool := nodeE (emps l) x
theorem emps_snoc (l : List Nd) (x : Nd) : emps (l ++ [x]) = emps l ++ [nodeE (emps l) x] := by
 unfold emps
 rw [List.foldl_append]
 rfl
theorem emps_len (l : List Nd) : (emps l).length = l.length + 1 := by
 suffices h : ∀ k, k ≤ l.length → (emps (l.take k)).length = k + 1 by
  have := h l.length (Nat.le_refl _)
  rwa [List.take_of_length_le (Nat.le_refl _)] at this
 intro k
 induction k with
 | zero => intro _; rfl
 | succ k ih =>
  intro hk
  rw [take_at (by omega), emps_snoc, List.length_append, ih (by omega)]
  rfl
theorem emps_take (l : List Nd) : ∀ k, k ≤ l.length → emps (l.take k) = (emps l).take (k + 1) := by
 suffices h : ∀ d k, k + d = l.length → emps (l.take k) = (emps l).take (k + 1) from fun k hk => h (l.length - k) k (by omega)
 intro d
 induction d with
 | zero =>
  intro k hk
  rw [List.take_of_length_le (by omega), List.take_of_length_le (by rw [emps_len]; omega)]
 | succ d ih =>
  intro k hk
  have h := ih (k + 1) (by omega)
  rw [take_at (by omega), emps_snoc] at h
  have hl : (emps (l.take k)).length = k + 1 := by rw [emps_len, List.length_take]; omega
  have := congrArg (List.take (k + 1)) h
  rw [List.take_append_of_le_length (by omega), List.take_of_length_le (by omega), List.take_take] at this
  rw [this]
  congr 1
  omega
theorem emps_at {l : List Nd} {i : Nat} (hi : i < l.length) : empB l (i + 1) = nodeE (emps (l.take i)) (at_ l i) := by
 have h := emps_take l (i + 1) (by omega)
 rw [take_at hi, emps_snoc] at h
 have hl : (emps (l.take i)).length = i + 1 := by rw [emps_len, List.length_take]; omega
 have h2 : ((emps l).take (i + 1 + 1))[i + 1]? = some (nodeE (emps (l.take i)) (at_ l i)) := by
  rw [← h, List.getElem?_append_right (by omega), hl]
  simp
 rw [List.getElem?_take, if_pos (by omega)] at h2
 unfold empB
 rw [List.getD_eq_getElem?_getD, h2]
 rfl
theorem empB_zero (l : List Nd) : empB l 0 = true := by
 have h := emps_take l 0 (by omega)
 have h2 : ((emps l).take 1)[0]? = some true := by
  rw [← h]
  rfl
 rw [List.getElem?_take, if_pos (by omega)] at h2
 unfold empB
 rw [List.getD_eq_getElem?_getD, h2]
 rfl
theorem fit_lv {l : List Nd} {x : Nd} (h : fitB l x = true) : 1 ≤ x.lv ∧ x.lv ≤ 1329 := by
 unfold fitB at h
 rw [Bool.and_eq_true, decide_eq_true_iff] at h
 exact h.1
theorem fit_kid {l : List Nd} {x : Nd} (h : fitB l x = true) {i : Nat} (hi : i < 4) : kidB l x.lv (x.kid i) = true := by
 unfold fitB at h
 rw [Bool.and_eq_true, each_iff] at h
 exact h.2 i hi
theorem kid_up {l : List Nd} {v k : Int} (hv : v ≠ 1) (h : kidB l v k = true) : k = 0 ∨ ∃ m : Nat, k = (m : Int) + 1 ∧ m < l.length ∧ (at_ l m).lv = v - 1 := by
 unfold kidB at h
 rw [if_neg hv, decide_eq_true_iff] at h
 rcases h with h | ⟨h1, h2, h3⟩
 ·
  exact .inl h
 ·
  refine .inr ⟨k.toNat - 1, by omega, by omega, h3⟩
theorem kid_mono {l : List Nd} {i : Nat} {v k : Int} (h : kidB (l.take i) v k = true) : kidB l v k = true := by
 by_cases hv : v = 1
 ·
  subst hv
  exact h
 ·
  have hle := List.length_take_le' i l
  have hli := List.length_take_le i l
  rcases kid_up hv h with rfl | ⟨m, rfl, hm, hl⟩
  ·
   unfold kidB
   rw [if_neg hv]
   exact decide_eq_true (.inl rfl)
  ·
   unfold kidB
   rw [if_neg hv]
   have e : ((m : Int) + 1).toNat - 1 = m := by omega
   rw [at_take (by omega)] at hl
   exact decide_eq_true (.inr ⟨by omega, by omega, by rw [e]; exact hl⟩)
theorem fit_mono {l : List Nd} {i : Nat} {x : Nd} (h : fitB (l.take i) x = true) : fitB l x = true := by
 have h1 := fit_lv h
 unfold fitB
 rw [Bool.and_eq_true, each_iff]
 exact ⟨decide_eq_true h1, fun j hj => kid_mono (fit_kid h hj)⟩
theorem loose_iff {l : List Nd} : looseB l = true ↔ ∀ i, i < l.length → fitB (l.take i) (at_ l i) = true := by
 unfold looseB
 rw [List.all_eq_true]
 exact ⟨fun h i hi => h i (List.mem_range.2 hi), fun h i hi => h i (List.mem_range.1 hi)⟩
theorem loose_fit {l : List Nd} (h : looseB l = true) {i : Nat} (hi : i < l.length) : fitB l (at_ l i) = true := fit_mono (loose_iff.1 h i hi)
theorem emp_one {l : List Nd} {x : Nd} (h : x.lv = 1) : nodeEmp l x = x.each (· == 0) := by
 unfold nodeEmp nodeE
 refine each_congr fun i hi => ?_
 rw [h]
 simp
theorem emp_up {l : List Nd} {x : Nd} (h : 1 < x.lv) : nodeEmp l x = x.each fun c => c == 0 || empB l c.toNat := by
 unfold nodeEmp nodeE
 refine each_congr fun i hi => ?_
 rw [decide_eq_true h, Bool.true_and]
 rfl
theorem nodeE_take {l : List Nd} {i : Nat} {x : Nd} (hi : i ≤ l.length) (h : fitB (l.take i) x = true) : nodeE (emps (l.take i)) x = nodeEmp l x := by
 have hv := fit_lv h
 by_cases h1 : x.lv = 1
 ·
  exact (emp_one (l := l.take i) h1).trans (emp_one h1).symm
 ·
  refine (emp_up (l := l.take i) (by omega)).trans (Eq.trans ?_ (emp_up (by omega)).symm)
  refine each_congr fun j hj => ?_
  rcases kid_up h1 (fit_kid h hj) with e | ⟨m, e, hm, _⟩
  ·
   rw [e]; rfl
  ·
   rw [e]
   congr 1
   have hli := List.length_take_le i l
   unfold empB
   rw [emps_take l i hi, List.getD_eq_getElem?_getD, List.getD_eq_getElem?_getD, List.getElem?_take, if_pos (by omega)]
theorem emp_at {l : List Nd} (h : looseB l = true) {i : Nat} (hi : i < l.length) : empB l (i + 1) = nodeEmp l (at_ l i) := by
 rw [emps_at hi]
 exact nodeE_take (by omega) (loose_iff.1 h i hi)
theorem emp_zero {l : List Nd} {x : Nd} (h : x.each (· == 0) = true) : nodeEmp l x = true := by
 unfold nodeEmp nodeE
 rw [each_iff] at h ⊢
 intro i hi
 rw [h i hi]
 rfl
theorem no_empty {l : List Nd} (h : looseB l = true) (hz : ∀ i, i < l.length → (at_ l i).each (· == 0) = false) : ∀ i, i < l.length → nodeEmp l (at_ l i) = false := by
 intro i
 induction i using Nat.strongRecOn with
 | _ i ih =>
  intro hi
  have hf := loose_iff.1 h i hi
  have hv := fit_lv hf
  by_cases h1 : (at_ l i).lv = 1
  ·
   rw [emp_one h1]
   exact hz i hi
  ·
   rw [emp_up (by omega)]
   cases hq : (at_ l i).each fun c => c == 0 || empB l c.toNat
   ·
    rfl
   ·
    exfalso
    have hall := each_iff.1 hq
    have hzero : (at_ l i).each (· == 0) = true := by
     rw [each_iff]
     intro j hj
     rcases kid_up h1 (fit_kid hf hj) with e | ⟨m, e, hm, _⟩
     ·
      rw [e]; rfl
     ·
      have hli := List.length_take_le i l
      have ht := hall j hj
      rw [e] at ht
      have e2 : ((m : Int) + 1).toNat = m + 1 := by omega
      rw [e2, emp_at h (by omega), ih m (by omega) (by omega), Bool.or_false] at ht
      rw [e]
      exact ht
    rw [hz i hi] at hzero
    cases hzero
end Go.Proofs.Ytlnmcilcifbcnaa.Nds

namespace Go.Proofs.Ytlnmcilcifbcnaa.Nds
def stepK (f : Nat → Nat → Option Nat) (e : Option Nat) (k : Int) : Option Nat := e.bind fun e => if (e : Int) < k then f k.toNat e else some e
def foldTo (f : Nat → Nat → Option Nat) (x : Nd) (e : Nat) : Nat → Option Nat
 | 0 => some e
 | k + 1 => stepK f (foldTo f x e k) (x.kid k)
def wk (l : List Nd) : Nat → Nat → Nat → Option Nat
 | 0, _, _ => none
 | m + 1, n, e => (if 1 < (at_ l (n - 1)).lv then foldTo (wk l m) (at_ l (n - 1)) e 4 else some e).bind fun e' => if n = e' + 1 then some n else none
def stepL (f : Nat → List Nat → List Nat) (out : List Nat) (k : Int) : List Nat := if 0 < k then f k.toNat out else out
def foldL (f : Nat → List Nat → List Nat) (x : Nd) (out : List Nat) : Nat → List Nat
 | 0 => out
 | k + 1 => stepL f (foldL f x out k) (x.kid k)
def endL (l : List Nd) : Nat → Nat → List Nat → List Nat
 | 0, _, out => out
 | m + 1, n, out => if n ∈ out then out else (if 1 < (at_ l (n - 1)).lv then foldL (endL l m) (at_ l (n - 1)) out 4 else out) ++ [n]
theorem kid_of {l : List Nd} (hl : looseB l = true) {n : Nat} (h0 : 0 < n) (hn : n ≤ l.length) (hv : 1 < (at_ l (n - 1)).lv) {i : Nat} (hi : i < 4) :
  (at_ l (n - 1)).kid i = 0 ∨ ∃ p : Nat, (at_ l (n - 1)).kid i = (p : Int) ∧ 0 < p ∧ p < n ∧ (at_ l (p - 1)).lv = (at_ l (n - 1)).lv - 1 := by
 have hf := loose_iff.1 hl (n - 1) (by omega)
 rcases kid_up (by omega) (fit_kid hf hi) with e | ⟨m, e, hm, hl2⟩
 ·
  exact .inl e
 ·
  have hle := List.length_take_le (n - 1) l
  refine .inr ⟨m + 1, by rw [e]; omega, by omega, by omega, ?_⟩
  rw [at_take (by omega)] at hl2
  exact hl2
theorem foldL_pre {f : Nat → List Nat → List Nat} {x : Nd} {out : List Nat} (hf : ∀ n out, out <+: f n out) : ∀ k, out <+: foldL f x out k
 | 0 => List.prefix_rfl
 | k + 1 => by
  unfold foldL stepL
  have h := foldL_pre (x := x) (out := out) hf k
  split
  ·
   exact h.trans (hf _ _)
  ·
   exact h
theorem endL_pre (l : List Nd) : ∀ m n out, out <+: endL l m n out
 | 0, _, _ => List.prefix_rfl
 | m + 1, n, out => by
  unfold endL
  split
  ·
   exact List.prefix_rfl
  ·
   split
   ·
    exact (foldL_pre (fun n out => endL_pre l m n out) 4).trans (List.prefix_append _ _)
   ·
    exact List.prefix_append _ _
theorem endL_in {l : List Nd} {m n : Nat} {out : List Nat} (h : n ∈ out) : endL l m n out = out := by
 cases m with
 | zero => rfl
 | succ m =>
  unfold endL
  rw [if_pos h]
theorem nodup_le : ∀ (N : Nat) (out : List Nat), out.Nodup → (∀ v ∈ out, 0 < v ∧ v ≤ N) → out.length ≤ N
 | 0, out, _, h => by
  cases out with
  | nil => exact Nat.le_refl _
  | cons a r => have := h a (by simp); omega
 | N + 1, out, hd, h => by
  by_cases hm : N + 1 ∈ out
  ·
   have h1 := nodup_le N (out.erase (N + 1)) (hd.erase _) (fun v hv => by
    have hv2 := (hd.mem_erase_iff).1 hv
    have := h v hv2.2
    have := hv2.1
    omega)
   rw [List.length_erase_of_mem hm] at h1
   omega
  ·
   have := nodup_le N out hd (fun v hv => by
    have := h v hv
    have : v ≠ N + 1 := fun e => hm (e ▸ hv)
    omega)
   omega
def upto (e : Nat) : List Nat := List.range' 1 e
theorem mem_upto {e v : Nat} : v ∈ upto e ↔ 0 < v ∧ v ≤ e := by
 unfold upto
 rw [List.mem_range'_1]
 omega
theorem upto_snoc (e : Nat) : upto e ++ [e + 1] = upto (e + 1) := by
 unfold upto
 rw [List.range'_concat]
 simp [Nat.add_comm]
theorem upto_len (e : Nat) : (upto e).length = e := by
 unfold upto
 simp
theorem upto_at {e i : Nat} (h : i < e) : (upto e)[i]? = some (1 + i) := by
 unfold upto
 rw [List.getElem?_range' h]
 simp
theorem upto_pre {out : List Nat} {e : Nat} (h : out <+: upto e) : out = upto out.length := by
 obtain ⟨r, hr⟩ := h
 have hlen := congrArg List.length hr
 rw [List.length_append, upto_len] at hlen
 refine List.ext_getElem (by rw [upto_len]) fun i h1 h2 => ?_
 have h3 : (out ++ r)[i]? = (upto e)[i]? := by rw [hr]
 rw [List.getElem?_append_left h1, upto_at (by omega)] at h3
 have h4 := upto_at (e := out.length) h1
 rw [List.getElem?_eq_getElem h1] at h3
 rw [List.getElem?_eq_getElem h2] at h4
 exact Option.some.inj (h3.trans h4.symm)
theorem wk_end {l : List Nd} (hl : looseB l = true) : ∀ (m n e : Nat), 0 < n → n ≤ l.length → (at_ l (n - 1)).lv ≤ m → e < n →
  (wk l m n e = some n ∧ endL l m n (upto e) = upto n) ∨ (wk l m n e = none ∧ ∀ k, ¬ endL l m n (upto e) <+: upto k)
 | 0, n, e, h0, hn, hv, _ => by
  have := fit_lv (loose_iff.1 hl (n - 1) (by omega))
  omega
 | m + 1, n, e, h0, hn, hv, he => by
  have hnot : n ∉ upto e := fun h => by have := mem_upto.1 h; omega
  by_cases hlv : 1 < (at_ l (n - 1)).lv
  ·
   have key : ∀ k, k ≤ 4 → (∃ e', e' < n ∧ foldTo (wk l m) (at_ l (n - 1)) e k = some e' ∧ foldL (endL l m) (at_ l (n - 1)) (upto e) k = upto e') ∨
     (foldTo (wk l m) (at_ l (n - 1)) e k = none ∧ ∀ j, ¬ foldL (endL l m) (at_ l (n - 1)) (upto e) k <+: upto j) := by
    intro k
    induction k with
    | zero => exact fun _ => .inl ⟨e, he, rfl, rfl⟩
    | succ k ih =>
     intro hk
     rcases ih (by omega) with ⟨e', he', h1, h2⟩ | ⟨h1, h2⟩
     ·
      unfold foldTo foldL
      rw [h1, h2]
      unfold stepK stepL
      rcases kid_of hl h0 hn hlv (i := k) (by omega) with e0 | ⟨p, e0, hp, hpn, hpl⟩
      ·
       rw [e0]
       refine .inl ⟨e', he', ?_, rfl⟩
       rw [Option.bind_some, if_neg (by omega)]
      ·
       rw [e0]
       rw [if_pos (show (0 : Int) < (p : Int) by omega), Int.toNat_natCast, Option.bind_some]
       by_cases hep : e' < p
       ·
        rw [if_pos (by omega)]
        rcases wk_end hl m p e' hp (by omega) (by omega) hep with ⟨g1, g2⟩ | ⟨g1, g2⟩
        ·
         exact .inl ⟨p, hpn, g1, g2⟩
        ·
         exact .inr ⟨g1, g2⟩
       ·
        rw [if_neg (by omega), endL_in (mem_upto.2 ⟨hp, by omega⟩)]
        exact .inl ⟨e', he', rfl, rfl⟩
     ·
      unfold foldTo foldL
      rw [h1]
      refine .inr ⟨rfl, fun j hj => h2 j ?_⟩
      refine List.IsPrefix.trans ?_ hj
      unfold stepL
      split
      ·
       exact endL_pre l m _ _
      ·
       exact List.prefix_rfl
   unfold wk endL
   rw [if_pos hlv, if_neg hnot, if_pos hlv]
   rcases key 4 (by omega) with ⟨e', he', h1, h2⟩ | ⟨h1, h2⟩
   ·
    rw [h1, h2]
    rw [Option.bind_some]
    by_cases hne : n = e' + 1
    ·
     rw [if_pos hne, hne, upto_snoc]
     exact .inl ⟨rfl, rfl⟩
    ·
     rw [if_neg hne]
     refine .inr ⟨rfl, fun k hk => ?_⟩
     have h3 := upto_pre hk
     have h4 : n ∈ upto e' ++ [n] := by simp
     rw [h3, mem_upto, List.length_append, upto_len] at h4
     simp at h4
     omega
   ·
    rw [h1]
    refine .inr ⟨rfl, fun k hk => h2 k ((List.prefix_append _ _).trans hk)⟩
  ·
   unfold wk endL
   rw [if_neg hlv, if_neg hnot, if_neg hlv]
   rw [Option.bind_some]
   by_cases hne : n = e + 1
   ·
    rw [if_pos hne, hne, upto_snoc]
    exact .inl ⟨rfl, rfl⟩
   ·
    rw [if_neg hne]
    refine .inr ⟨rfl, fun k hk => ?_⟩
    have h3 := upto_pre hk
    have h4 : n ∈ upto e ++ [n] := by simp
    rw [h3, mem_upto, List.length_append, upto_len] at h4
    simp at h4
    omega
end Go.Proofs.Ytlnmcilcifbcnaa.Nds
