/-
  big: Sub, Pow, Cmp of the program and of the reference; fromMinusOne.
  big: Right, Same of the program and of the reference; Great; the reference's Shr.
-/
import Derived.Test.YteekijmhghokkaaDoorNumbA

namespace Go.Proofs.YteekijmhghokkaaDoor
set_option linter.unusedVariables false
set_option linter.unusedSimpArgs false
open Go.RowKit Num
theorem val_ival (s : Bool) (r : List Nat) : val r = (ival s r).natAbs := by
  unfold ival
  cases s <;> simp
theorem len_ival {s : Bool} {r : List Nat} {n : Int} (hc : CanonI s r) (hv : ival s r = n) (k : Nat) (hn : n.natAbs < 4294967296 ^ k) : r.length ≤ k :=
  len_le hc.1 (by rw [val_ival s r, hv]; exact hn)
theorem abs_of_len {s : Bool} {xs : List Nat} (hd : Dig xs) {k : Nat} (hl : xs.length ≤ k) : (ival s xs).natAbs < 4294967296 ^ k := by
  rw [← val_ival]
  exact Nat.lt_of_lt_of_le (val_lt hd) (Nat.pow_le_pow_right (by decide) hl)
set_option maxRecDepth 100000 in
set_option maxHeartbeats 1600000 in
theorem rbpow_any (n : Int) (w : World) :
    Calls Tryd.prog 20 #[.int .i64 n] w (RetI (shlI 1 n) w) := by
  obtain ⟨hR, hB⟩ := box1 w (.bool false) (.slice none 0 0) 24
  have HR := Lib.hid hR
  have HB := Lib.hid hB
  clear hR hB
  go_enter Tryd.func20, Tryd.ntmps20
  go_wp2_with (first
    | (go_at_call 18; refine (rbof_any 1 _ (by decide) (by decide)).mono ?_; rintro e w1 ⟨A1, c1, s1, r1, rfl, q1, k1, v1, b1⟩; have l1 : r1.length ≤ 1 := len_ival k1 v1 1 (by decide); have HV := Lib.hid v1; clear v1)
    | (go_at_call 33; refine (rbshl_any s1 _ _ r1 n _ q1 (by omega)).mono ?_; rintro e w2 ⟨A2, c2, s2, r2, rfl, q2, k2, v2, b2⟩; obtain ⟨y1, y2, y3, y4, _⟩ := (HR.out.below b1).below b2; have HV2 := Lib.hid v2; clear v2))
  obtain ⟨e1, e2, _, _, _⟩ := (((HR.out.below b1).below b2).set (.bool s2) (.slice A2 r2.length c2))
  refine bodyPost_ret (v := .agg #[.bool s2, .slice A2 r2.length c2]) (by simp [results, Tryd.results20, go_sem, e1, e2]) rfl ?_
  exact RetI.box (by omega) ((HR.out.below b1).below b2) q2 k2 (by rw [HV2.out, HV.out]) ((HB.out.trans (b1.mono HB.out.size)).trans (b2.mono (HB.out.trans (b1.mono HB.out.size)).size))
end Go.Proofs.YteekijmhghokkaaDoor

namespace Go.Proofs.YteekijmhghokkaaDoor
set_option linter.unusedVariables false
set_option linter.unusedSimpArgs false
open Go.RowKit Num
theorem len_nz (n : Nat) : ((n : Int) == 0) = !decide (0 < n) := by
  cases n with
  | zero => rfl
  | succ n =>
    rw [beq_eq_false_iff_ne.2 (by omega), decide_eq_true (by omega)]
    rfl
def rightI (s : Bool) (xs : List Nat) : Bool := rightB xs && (!s || decide (0 < xs.length))
set_option maxRecDepth 100000 in
set_option maxHeartbeats 1600000 in
theorem rbright_any (s : Bool) (A : Option Addr) (c : Nat) (xs : List Nat) (w : World) (h : Us w A c xs) (hl : xs.length ≤ 60000) :
    Calls Tryd.prog 9 #[.agg #[.bool s, .slice A xs.length c]] w fun e w' => e = .returned (.bool (rightI s xs)) ∧ Below w.heap.size w w' := by
  have hcap := h.cap
  obtain ⟨hX, hB⟩ := box1 w (.bool s) (.slice A xs.length c) 24
  have HB := Lib.hid hB
  have H1 := Lib.hid (h.below HB.out)
  obtain ⟨b, hb⟩ : ∃ b, b = rightB xs := ⟨_, rfl⟩
  unfold rightI
  rw [← hb]
  have HR := Lib.hid hb
  clear h hX hB hb
  cases b <;> cases s
  all_goals
    go_enter Tryd.func9, Tryd.ntmps9
    go_wp2_with (go_at_call 21; refine (rright_any _ _ xs _ H1.out (by omega)).mono ?_; rintro e w' ⟨rfl, rfl⟩; rw [← HR.out])
    go_ret
    exact ⟨by simp [len_nz], HB.out⟩
set_option maxRecDepth 100000 in
set_option maxHeartbeats 1600000 in
theorem great_any (s : Bool) (A : Option Addr) (c n : Nat) (w : World) (hn : n ≤ 9223372036854775807) :
    Calls Tryd.prog 8 #[.agg #[.bool s, .slice A n c]] w fun e w' => e = .returned (.bool (decide (60 < n))) ∧ Below w.heap.size w w' := by
  obtain ⟨hX, hB⟩ := box1 w (.bool s) (.slice A n c) 24
  have HB := Lib.hid hB
  clear hX hB
  go_enter Tryd.func8, Tryd.ntmps8
  go_wp2_with fail
  go_ret
  exact ⟨by simp <;> omega, HB.out⟩
theorem great_no (s : Bool) (A : Option Addr) (c n : Nat) (w : World) (hn : n ≤ 60) :
    Calls Tryd.prog 8 #[.agg #[.bool s, .slice A n c]] w fun e w' => e = .returned (.bool false) ∧ Below w.heap.size w w' := by
  have h := great_any s A c n w (by omega)
  rwa [decide_eq_false (by omega)] at h
theorem great_yes (s : Bool) (A : Option Addr) (c n : Nat) (w : World) (h1 : 60 < n) (hn : n ≤ 9223372036854775807) :
    Calls Tryd.prog 8 #[.agg #[.bool s, .slice A n c]] w fun e w' => e = .returned (.bool true) ∧ Below w.heap.size w w' := by
  have h := great_any s A c n w hn
  rwa [decide_eq_true h1] at h
set_option maxRecDepth 100000 in
set_option maxHeartbeats 1600000 in
theorem rbsame_any (s t : Bool) (A B : Option Addr) (c d : Nat) (xs ys : List Nat) (w : World) (h : Us w A c xs) (k : Us w B d ys) (hl : xs.length ≤ 1000000) :
    Calls Tryd.prog 14 #[.agg #[.bool s, .slice A xs.length c], .agg #[.bool t, .slice B ys.length d]] w fun e w' => e = .returned (.bool (decide (s = t ∧ xs = ys))) ∧ Below w.heap.size w w' := by
  have hcap := h.cap
  have kcap := k.cap
  obtain ⟨hX, hY, hB⟩ := box2 w (.bool s) (.slice A xs.length c) (.bool t) (.slice B ys.length d) 24
  have HX := Lib.hid hX.drew
  have HY := Lib.hid hY.drew
  have HB := Lib.hid hB
  have H1 := Lib.hid (h.below HB.out)
  have H2 := Lib.hid (k.below HB.out)
  obtain ⟨z, hz⟩ : ∃ z, z = decide (xs = ys) := ⟨_, rfl⟩
  have hzz : decide (s = t ∧ xs = ys) = (decide (s = t) && z) := by rw [hz]; simp
  rw [hzz]
  have HZ := Lib.hid hz
  clear h k hX hY hB hz hzz
  cases s <;> cases t
  all_goals
    go_enter Tryd.func14, Tryd.ntmps14
    go_wp2_with (go_at_call 29; refine (same_any _ _ _ _ xs ys _ H1.out H2.out hl).mono ?_; rintro e w1 ⟨rfl, b1⟩; rw [← HZ.out])
    go_ret
    first | exact ⟨by simp, HB.out.trans (b1.mono HB.out.size)⟩ | exact ⟨by simp, HB.out⟩
end Go.Proofs.YteekijmhghokkaaDoor
