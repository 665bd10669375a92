/-
  big: Right, Same of the program and of the reference; Great; the reference's Shr.
-/
import Derived.Test.YthkeehfoefjnfaaBigE
namespace Go.Proofs.Ythkeehfoefjnfaa
set_option linter.unusedVariables false
set_option linter.unusedSimpArgs false
open Go.RowKit Num

theorem len_nz (n : Nat) : ((n : Int) == 0) = !decide (0 < n) := by
  cases n with
  | zero => rfl
  | succ n =>
    rw [beq_eq_false_iff_ne.2 (by omega), decide_eq_true (by omega)]
    rfl
def rightI (s : Bool) (xs : List Nat) : Bool := rightB xs && (!s || decide (0 < xs.length))
set_option maxRecDepth 100000 in
set_option maxHeartbeats 1600000 in
theorem bright_any (s : Bool) (A : Option Addr) (c : Nat) (xs : List Nat) (w : World) (h : Us w A c xs) (hl : xs.length ≤ 60000) :
    Calls Try.prog 40 #[.agg #[.bool s, .slice A xs.length c]] w fun e w' => e = .returned (.bool (rightI s xs)) ∧ Below w.heap.size w w' := by
  have hcap := h.cap
  obtain ⟨hX, hB⟩ := box1 w (.bool s) (.slice A xs.length c) 43
  have HB := Lib.hid hB
  have H1 := Lib.hid (h.below HB.out)
  obtain ⟨b, hb⟩ : ∃ b, b = rightB xs := ⟨_, rfl⟩
  unfold rightI
  rw [← hb]
  have HR := Lib.hid hb
  clear h hX hB hb
  cases b <;> cases s
  all_goals
    go_enter Try.func40, Try.ntmps40
    go_wp2_with (go_at_call 26; refine (right_any _ _ xs _ H1.out (by omega)).mono ?_; rintro e w' ⟨rfl, rfl⟩; rw [← HR.out])
    go_ret
    exact ⟨by simp, HB.out⟩
set_option maxRecDepth 100000 in
set_option maxHeartbeats 1600000 in
theorem rbright_any (s : Bool) (A : Option Addr) (c : Nat) (xs : List Nat) (w : World) (h : Us w A c xs) (hl : xs.length ≤ 60000) :
    Calls Try.prog 41 #[.agg #[.bool s, .slice A xs.length c]] w fun e w' => e = .returned (.bool (rightI s xs)) ∧ Below w.heap.size w w' := by
  have hcap := h.cap
  obtain ⟨hX, hB⟩ := box1 w (.bool s) (.slice A xs.length c) 43
  have HB := Lib.hid hB
  have H1 := Lib.hid (h.below HB.out)
  obtain ⟨b, hb⟩ : ∃ b, b = rightB xs := ⟨_, rfl⟩
  unfold rightI
  rw [← hb]
  have HR := Lib.hid hb
  clear h hX hB hb
  cases b <;> cases s
  all_goals
    go_enter Try.func41, Try.ntmps41
    go_wp2_with (go_at_call 27; refine (rright_any _ _ xs _ H1.out (by omega)).mono ?_; rintro e w' ⟨rfl, rfl⟩; rw [← HR.out])
    go_ret
    exact ⟨by simp [len_nz], HB.out⟩
set_option maxRecDepth 100000 in
set_option maxHeartbeats 1600000 in
theorem great_any (s : Bool) (A : Option Addr) (c n : Nat) (w : World) (hn : n ≤ 9223372036854775807) :
    Calls Try.prog 35 #[.agg #[.bool s, .slice A n c]] w fun e w' => e = .returned (.bool (decide (60 < n))) ∧ Below w.heap.size w w' := by
  obtain ⟨hX, hB⟩ := box1 w (.bool s) (.slice A n c) 43
  have HB := Lib.hid hB
  clear hX hB
  go_enter Try.func35, Try.ntmps35
  go_wp2_with fail
  go_ret
  exact ⟨by simp <;> omega, HB.out⟩

theorem great_no (s : Bool) (A : Option Addr) (c n : Nat) (w : World) (hn : n ≤ 60) :
    Calls Try.prog 35 #[.agg #[.bool s, .slice A n c]] w fun e w' => e = .returned (.bool false) ∧ Below w.heap.size w w' := by
  have h := great_any s A c n w (by omega)
  rwa [decide_eq_false (by omega)] at h
theorem great_yes (s : Bool) (A : Option Addr) (c n : Nat) (w : World) (h1 : 60 < n) (hn : n ≤ 9223372036854775807) :
    Calls Try.prog 35 #[.agg #[.bool s, .slice A n c]] w fun e w' => e = .returned (.bool true) ∧ Below w.heap.size w w' := by
  have h := great_any s A c n w hn
  rwa [decide_eq_true h1] at h

set_option maxRecDepth 100000 in
set_option maxHeartbeats 800000 in
theorem equal_any (A B : Option Addr) (c d : Nat) (xs ys : List Nat) (w : World) (h : Us w A c xs) (k : Us w B d ys) (hx : xs.length ≤ 1000000) :
    Calls Try.prog 74 #[.slice A xs.length c, .slice B ys.length d] w fun e w' => e = .returned (.bool (decide (xs = ys))) ∧ Below w.heap.size w w' := by
  obtain ⟨r, hr⟩ : ∃ r, r = decide (xs = ys) := ⟨_, rfl⟩
  rw [← hr]
  have HR := Lib.hid hr
  clear hr
  by_cases hl : xs.length = ys.length
  · by_cases h0 : 0 < xs.length
    · obtain ⟨b, off, rfl, hb, hc⟩ := h.at_ h0
      obtain ⟨b2, off2, rfl, hb2, hc2⟩ := k.at_ (by omega)
      clear h k
      obtain ⟨n, hn⟩ : ∃ n, n = xs.length := ⟨_, rfl⟩
      rw [← hl, ← hn]
      have HC := Lib.hid hc
      have HC2 := Lib.hid hc2
      have HL := Lib.hid hl
      have HN := Lib.hid hn
      have hn1 : n ≤ 1000000 := by omega
      clear hc hc2 hl hn h0 hx
      go_enter Try.func74, Try.ntmps74
      go_wp2
      go_loopw [13] (fun i wr => ∃ k : Nat, k ≤ n ∧ i = .int .i64 k ∧ (∀ j, j < k → xs[j]?.getD 0 = ys[j]?.getD 0) ∧ Below w.heap.size w wr) (fun i _ => n - (intOf i).toNat)
      case atStart => exact ⟨0, by omega, rfl, fun j hj => by omega, Below.refl _ _⟩
      case round =>
        obtain ⟨k, hk, rfl, hall, hbw⟩ := hrel
        have HA := Lib.hid hall
        clear hall
        by_cases hlt : k < n
        · have e1 := (hbw.cell (p := ⟨b, off + k, none⟩) hb).trans (HC.out k (by rw [← HN.out]; exact hlt))
          have e2 := (hbw.cell (p := ⟨b2, off2 + k, none⟩) hb2).trans (HC2.out k (by rw [← HL.out, ← HN.out]; exact hlt))
          obtain ⟨x, hxe⟩ : ∃ x, x = xs[k]?.getD 0 := ⟨_, rfl⟩
          obtain ⟨y, hye⟩ : ∃ y, y = ys[k]?.getD 0 := ⟨_, rfl⟩
          rw [← hxe] at e1
          rw [← hye] at e2
          have HX := Lib.hid hxe
          have HY := Lib.hid hye
          clear hxe hye
          have i1 : (k : Int) < (n : Int) := by omega
          by_cases hxy : x = y
          · subst hxy
            go_wp2
            go_quiet (fail)
            go_wp2
            go_roundw
            case rel =>
              refine ⟨k + 1, by omega, by go_num, fun j hj => ?_, below_drewN hbw _⟩
              rcases Nat.lt_or_ge j k with h1 | h1
              · exact HA.out j h1
              · have : j = k := by omega
                subst this
                rw [← HX.out, ← HY.out]
            case measure => simp [intOf]; omega
          · have t1 : ((x : Int) != (y : Int)) = true := by rw [bne_iff_ne]; omega
            clear hxy
            go_wp2
            go_quiet (fail)
            go_wp2
            go_ret
            refine ⟨?_, below_drewN hbw _⟩
            have : r = false := by
              rw [HR.out]
              refine decide_eq_false fun e => ?_
              have := HX.out
              rw [e, ← HY.out] at this
              subst this
              simp at t1
            rw [this]; rfl
        · obtain rfl : k = n := by omega
          go_wp2
          go_ret
          refine ⟨?_, hbw⟩
          have : r = true := by
            rw [HR.out]
            exact decide_eq_true (same_lists HL.out (by rw [← HN.out]; exact HA.out))
          rw [this]; rfl
    · have e1 : xs.length = 0 := by omega
      have e2 : ys.length = 0 := by omega
      have : r = true := by
        rw [HR.out]
        exact decide_eq_true ((List.eq_nil_of_length_eq_zero e1).trans (List.eq_nil_of_length_eq_zero e2).symm)
      rw [e1, e2, this]
      clear HR h k h0 hx hl e1 e2 this
      go_enter Try.func74, Try.ntmps74
      go_wp2
      refine wp_loop_rounds 1 ?_
      rw [rounds_succ]
      go_wp2
      go_ret
      exact ⟨rfl, Below.refl _ _⟩
  · have : r = false := by
      rw [HR.out]
      exact decide_eq_false fun e => hl (by rw [e])
    rw [this]
    clear HR this h k
    have t1 : ((xs.length : Int) != (ys.length : Int)) = true := by rw [bne_iff_ne]; omega
    clear hl
    generalize xs.length = n at *
    generalize ys.length = m at *
    go_enter Try.func74, Try.ntmps74
    go_wp2
    go_ret
    exact ⟨rfl, Below.refl _ _⟩

set_option maxRecDepth 100000 in
set_option maxHeartbeats 1600000 in
theorem bsame_any (s t : Bool) (A B : Option Addr) (c d : Nat) (xs ys : List Nat) (w : World) (h : Us w A c xs) (k : Us w B d ys) (hl : xs.length ≤ 1000000) :
    Calls Try.prog 42 #[.agg #[.bool s, .slice A xs.length c], .agg #[.bool t, .slice B ys.length d]] w fun e w' => e = .returned (.bool (decide (s = t ∧ xs = ys))) ∧ Below w.heap.size w w' := by
  have hcap := h.cap
  have kcap := k.cap
  obtain ⟨hX, hY, hB⟩ := box2 w (.bool s) (.slice A xs.length c) (.bool t) (.slice B ys.length d) 43
  have HX := Lib.hid hX.drew
  have HY := Lib.hid hY.drew
  have HB := Lib.hid hB
  have H1 := Lib.hid (h.below HB.out)
  have H2 := Lib.hid (k.below HB.out)
  obtain ⟨z, hz⟩ : ∃ z, z = decide (xs = ys) := ⟨_, rfl⟩
  have hzz : decide (s = t ∧ xs = ys) = (decide (s = t) && z) := by rw [hz]; simp
  rw [hzz]
  have HZ := Lib.hid hz
  clear h k hX hY hB hz hzz
  cases s <;> cases t
  all_goals
    go_enter Try.func42, Try.ntmps42
    go_wp2_with (go_at_call 74; refine (equal_any _ _ _ _ xs ys _ H1.out H2.out hl).mono ?_; rintro e w1 ⟨rfl, b1⟩; rw [← HZ.out])
    go_ret
    first | exact ⟨by simp, HB.out.trans (b1.mono HB.out.size)⟩ | exact ⟨by simp, HB.out⟩

set_option maxRecDepth 100000 in
set_option maxHeartbeats 1600000 in
theorem rbsame_any (s t : Bool) (A B : Option Addr) (c d : Nat) (xs ys : List Nat) (w : World) (h : Us w A c xs) (k : Us w B d ys) (hl : xs.length ≤ 1000000) :
    Calls Try.prog 38 #[.agg #[.bool s, .slice A xs.length c], .agg #[.bool t, .slice B ys.length d]] w fun e w' => e = .returned (.bool (decide (s = t ∧ xs = ys))) ∧ Below w.heap.size w w' := by
  have hcap := h.cap
  have kcap := k.cap
  obtain ⟨hX, hY, hB⟩ := box2 w (.bool s) (.slice A xs.length c) (.bool t) (.slice B ys.length d) 43
  have HX := Lib.hid hX.drew
  have HY := Lib.hid hY.drew
  have HB := Lib.hid hB
  have H1 := Lib.hid (h.below HB.out)
  have H2 := Lib.hid (k.below HB.out)
  obtain ⟨z, hz⟩ : ∃ z, z = decide (xs = ys) := ⟨_, rfl⟩
  have hzz : decide (s = t ∧ xs = ys) = (decide (s = t) && z) := by rw [hz]; simp
  rw [hzz]
  have HZ := Lib.hid hz
  clear h k hX hY hB hz hzz
  cases s <;> cases t
  all_goals
    go_enter Try.func38, Try.ntmps38
    go_wp2_with (go_at_call 13; refine (same_any _ _ _ _ xs ys _ H1.out H2.out hl).mono ?_; rintro e w1 ⟨rfl, b1⟩; rw [← HZ.out])
    go_ret
    first | exact ⟨by simp, HB.out.trans (b1.mono HB.out.size)⟩ | exact ⟨by simp, HB.out⟩

end Go.Proofs.Ythkeehfoefjnfaa
