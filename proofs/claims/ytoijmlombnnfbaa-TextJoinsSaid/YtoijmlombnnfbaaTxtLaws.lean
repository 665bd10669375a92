/-
  TextTells, TextNext and TextJoins hold of every input: the walks.
-/
import Derived.Test.YtoijmlombnnfbaaTxtWalk
import Derived.IntWalk
import Derived.WalkSmall

namespace Go.Proofs.Ytoijmlombnnfbaa
set_option linter.unusedVariables false
set_option linter.unusedSimpArgs false
open Go.RowKit Txt
theorem qt_below {w w' : World} (h : ∃ m, w' = w.drewN m) : Below w.heap.size w w' := by
  obtain ⟨m, rfl⟩ := h
  exact below_drewN (Below.refl _ _) m
theorem place_ex1 (w : World) : Calls Try.prog 7 #[.string ⟨#[97, 10, 98]⟩, .int .i64 2] w fun e w' => e = .returned (.tuple #[.int .i64 2, .int .i64 1]) ∧ w = w' := place_any ⟨#[97, 10, 98]⟩ 2 w (by decide) (by decide) (by decide)
theorem place_ex2 (w : World) : Calls Try.prog 7 #[.string ⟨#[97, 10, 98]⟩, .int .i64 4] w fun e w' => e = .returned (.tuple #[.int .i64 0, .int .i64 0]) ∧ w = w' := place_any ⟨#[97, 10, 98]⟩ 4 w (by decide) (by decide) (by decide)
theorem rule_ex1 (w : World) : Calls Try.prog 9 #[.string ⟨#[66, 51, 47, 83, 50, 51]⟩] w fun e w' => e = .returned (.bool true) ∧ w = w' := rule_any ⟨#[66, 51, 47, 83, 50, 51]⟩ w (by decide)
theorem rule_ex2 (w : World) : Calls Try.prog 9 #[.string ⟨#[]⟩] w fun e w' => e = .returned (.bool false) ∧ w = w' := rule_any ⟨#[]⟩ w (by decide)
theorem rule_ex3 (w : World) : Calls Try.prog 9 #[.string ⟨#[97, 32, 98]⟩] w fun e w' => e = .returned (.bool false) ∧ w = w' := rule_any ⟨#[97, 32, 98]⟩ w (by decide)
theorem common_ex (w : World) : Calls Try.prog 11 #[.string ⟨#[97, 98, 99]⟩, .string ⟨#[97, 98, 100]⟩] w fun e w' => e = .returned (.int .i64 2) ∧ ∃ m, w' = w.drewN m := common_any ⟨#[97, 98, 99]⟩ ⟨#[97, 98, 100]⟩ w (by decide) (by decide)
theorem sign_ex1 (w : World) : Calls Try.prog 13 #[.int .u8 126] w fun e w' => e = .returned (.bool true) ∧ w = w' := sign_any 126 w
theorem sign_ex2 (w : World) : Calls Try.prog 13 #[.int .u8 127] w fun e w' => e = .returned (.bool false) ∧ w = w' := sign_any 127 w
set_option maxRecDepth 100000 in
set_option maxHeartbeats 1600000 in
theorem alive4_any (w : World) : Calls Try.prog 6 #[] w fun e w' => e = .returned (.bool true) ∧ ∃ m, w' = w.drewN m := by
  go_enter Try.func6, Try.ntmps6
  have q0 : True := trivial
  go_wp2_with (first
    | (have _t := q0; go_at_call 7; clear _t; go_loud (refine (place_ex1 _).mono ?_; rintro e w0 ⟨rfl, rfl⟩; have q1 := q0; clear q0))
    | (have _t := q1; go_at_call 7; clear _t; go_loud (refine (place_ex2 _).mono ?_; rintro e w1 ⟨rfl, rfl⟩; have q2 := q1; clear q1))
    | (have _t := q2; go_at_call 9; clear _t; go_loud (refine (rule_ex1 _).mono ?_; rintro e w2 ⟨rfl, rfl⟩; have q3 := q2; clear q2))
    | (have _t := q3; go_at_call 9; clear _t; go_loud (refine (rule_ex2 _).mono ?_; rintro e w3 ⟨rfl, rfl⟩; have q4 := q3; clear q3))
    | (have _t := q4; go_at_call 9; clear _t; go_loud (refine (rule_ex3 _).mono ?_; rintro e w4 ⟨rfl, rfl⟩; have q5 := q4; clear q4))
    | (have _t := q5; go_at_call 11; clear _t; go_loud (refine (common_ex _).mono ?_; rintro e w5 ⟨rfl, m5, rfl⟩; have q6 := q5; clear q5))
    | (have _t := q6; go_at_call 13; clear _t; go_loud (refine (sign_ex1 _).mono ?_; rintro e w6 ⟨rfl, rfl⟩; have q7 := q6; clear q6))
    | (have _t := q7; go_at_call 13; clear _t; go_loud (refine (sign_ex2 _).mono ?_; rintro e w7 ⟨rfl, rfl⟩; have q8 := q7; clear q7)))
  go_ret
  exact ⟨rfl, qt_of _ _⟩
set_option maxRecDepth 100000 in
set_option maxHeartbeats 3200000 in
theorem texttells_great (s t : ByteArray) (a : Int) (w : World) (h0 : -9223372036854775808 ≤ a) (h1 : a ≤ 9223372036854775807) (h : 1000 < s.size) :
    Calls Try.prog 3 #[.string s, .string t, .int .i64 a] w fun e w' => e = .returned (.bool true) ∧ ∃ m, w' = w.drewN m := by
  have q0 : True := trivial
  go_enter Try.func3, Try.ntmps3
  go_wp2_with (first
    | (have _t := q0; go_at_call 6; clear _t; go_loud (refine (alive4_any _).mono ?_; rintro e w1 ⟨rfl, m1, rfl⟩; have q1 := q0; clear q0)))
  go_ret
  exact ⟨rfl, qt_of _ _⟩
set_option maxRecDepth 100000 in
set_option maxHeartbeats 3200000 in
theorem texttells_great2 (s t : ByteArray) (a : Int) (w : World) (h0 : -9223372036854775808 ≤ a) (h1 : a ≤ 9223372036854775807) (hs : s.size ≤ 1000) (h : 1000 < t.size) :
    Calls Try.prog 3 #[.string s, .string t, .int .i64 a] w fun e w' => e = .returned (.bool true) ∧ ∃ m, w' = w.drewN m := by
  have q0 : True := trivial
  go_enter Try.func3, Try.ntmps3
  go_wp2_with (first
    | (have _t := q0; go_at_call 6; clear _t; go_loud (refine (alive4_any _).mono ?_; rintro e w1 ⟨rfl, m1, rfl⟩; have q1 := q0; clear q0)))
  go_ret
  exact ⟨rfl, qt_of _ _⟩
set_option maxRecDepth 100000 in
set_option maxHeartbeats 3200000 in
theorem texttells_none (s t : ByteArray) (a : Int) (w : World) (h0 : -9223372036854775808 ≤ a) (h1 : a ≤ 9223372036854775807) (hs : s.size = 0) (ht : t.size ≤ 1000) :
    Calls Try.prog 3 #[.string s, .string t, .int .i64 a] w fun e w' => e = .returned (.bool true) ∧ ∃ m, w' = w.drewN m := by
  have q0 : True := trivial
  have hs2 : s.size ≤ maxLen := by unfold maxLen; omega
  have ht2 : t.size ≤ maxLen := by unfold maxLen; omega
  obtain ⟨L, hL⟩ : ∃ L, L = lineAt s.data.toList a := ⟨_, rfl⟩
  obtain ⟨C, hC⟩ : ∃ C, C = colAt s.data.toList a := ⟨_, rfl⟩
  obtain ⟨R, hR⟩ : ∃ R, R = ruleB s.data.toList := ⟨_, rfl⟩
  obtain ⟨M, hM⟩ : ∃ M : Nat, M = comm s.data.toList t.data.toList := ⟨_, rfl⟩
  have HL := Lib.hid hL
  have HC := Lib.hid hC
  have HR := Lib.hid hR
  have HM := Lib.hid hM
  clear hL hC hR hM
  have hz : (((s.size : Nat) : Int) == 0) = true := by simp [hs]
  have hs3 : s.size ≤ 1000 := by omega
  have HZ := Lib.hid hs
  clear hs
  go_enter Try.func3, Try.ntmps3
  go_wp2_with (first
    | (have _t := q0; go_at_call 6; clear _t; go_loud (refine (alive4_any _).mono ?_; rintro e w1 ⟨rfl, m1, rfl⟩; have q1 := q0; clear q0))
    | (have _t := q1; go_at_call 7; clear _t; go_loud (refine (place_any s a _ (by omega) h0 h1).mono ?_; rintro e w2 ⟨rfl, rfl⟩; rw [← HL.out, ← HC.out]; have q2 := q1; clear q1))
    | (have _t := q2; go_at_call 8; clear _t; go_loud (refine (rplace_any s a _ (by omega) h0 h1).mono ?_; rintro e w2 ⟨rfl, rfl⟩; rw [← HL.out, ← HC.out]; have q3 := q2; clear q2)))
  generalize hW : w.drewN m1 = W
  have HW := Lib.hid hW
  clear hW
  go_quiet (first
    | (go_at_call 9; exact qt_same (rule_any s _ hs2))
    | (go_at_call 10; exact qt_same (rrule_any s _ hs2))
    | (go_at_call 11; exact Calls.quiet_of (common_any s t _ hs2 ht2))
    | (go_at_call 12; exact Calls.quiet_of (rcommon_any s t _ hs2 ht2))
    | (go_at_call 13; exact qt_same (sign_any _ _))
    | (go_at_call 14; exact qt_same (rsign_any _ _)))
  go_wp2
  go_ret
  exact ⟨rfl, by rw [← HW.out]; exact qt_two _ _ _⟩
set_option maxRecDepth 100000 in
set_option maxHeartbeats 3200000 in
theorem texttells_main (s t : ByteArray) (a : Int) (w : World) (h0 : -9223372036854775808 ≤ a) (h1 : a ≤ 9223372036854775807) (hp : 0 < s.size) (hs : s.size ≤ 1000) (ht : t.size ≤ 1000) :
    Calls Try.prog 3 #[.string s, .string t, .int .i64 a] w fun e w' => e = .returned (.bool true) ∧ ∃ m, w' = w.drewN m := by
  have q0 : True := trivial
  have hs2 : s.size ≤ maxLen := by unfold maxLen; omega
  have ht2 : t.size ≤ maxLen := by unfold maxLen; omega
  obtain ⟨L, hL⟩ : ∃ L, L = lineAt s.data.toList a := ⟨_, rfl⟩
  obtain ⟨C, hC⟩ : ∃ C, C = colAt s.data.toList a := ⟨_, rfl⟩
  obtain ⟨R, hR⟩ : ∃ R, R = ruleB s.data.toList := ⟨_, rfl⟩
  obtain ⟨M, hM⟩ : ∃ M : Nat, M = comm s.data.toList t.data.toList := ⟨_, rfl⟩
  have HL := Lib.hid hL
  have HC := Lib.hid hC
  have HR := Lib.hid hR
  have HM := Lib.hid hM
  clear hL hC hR hM
  have hz : (((s.size : Nat) : Int) == 0) = false := beq_eq_false_iff_ne.2 (by omega)
  go_enter Try.func3, Try.ntmps3
  go_wp2_with (first
    | (have _t := q0; go_at_call 6; clear _t; go_loud (refine (alive4_any _).mono ?_; rintro e w1 ⟨rfl, m1, rfl⟩; have q1 := q0; clear q0))
    | (have _t := q1; go_at_call 7; clear _t; go_loud (refine (place_any s a _ (by omega) h0 h1).mono ?_; rintro e w2 ⟨rfl, rfl⟩; rw [← HL.out, ← HC.out]; have q2 := q1; clear q1))
    | (have _t := q2; go_at_call 8; clear _t; go_loud (refine (rplace_any s a _ (by omega) h0 h1).mono ?_; rintro e w2 ⟨rfl, rfl⟩; rw [← HL.out, ← HC.out]; have q3 := q2; clear q2)))
  generalize hW : w.drewN m1 = W
  have HW := Lib.hid hW
  clear hW
  go_quiet (first
    | (go_at_call 9; exact qt_same (rule_any s _ hs2))
    | (go_at_call 10; exact qt_same (rrule_any s _ hs2))
    | (go_at_call 11; exact Calls.quiet_of (common_any s t _ hs2 ht2))
    | (go_at_call 12; exact Calls.quiet_of (rcommon_any s t _ hs2 ht2))
    | (go_at_call 13; exact qt_same (sign_any _ _))
    | (go_at_call 14; exact qt_same (rsign_any _ _)))
  go_wp2
  go_ret
  exact ⟨rfl, by rw [← HW.out]; exact qt_two _ _ _⟩
theorem texttells_any (s t : ByteArray) (a : Int) (w : World) (h0 : -9223372036854775808 ≤ a) (h1 : a ≤ 9223372036854775807) :
    Calls Try.prog 3 #[.string s, .string t, .int .i64 a] w fun e w' => e = .returned (.bool true) ∧ Below w.heap.size w w' := by
  suffices h : Calls Try.prog 3 #[.string s, .string t, .int .i64 a] w fun e w' => e = .returned (.bool true) ∧ ∃ m, w' = w.drewN m from h.mono fun _ _ ⟨he, h⟩ => ⟨he, qt_below h⟩
  rcases (show 1000 < s.size ∨ (s.size ≤ 1000 ∧ 1000 < t.size) ∨ (s.size = 0 ∧ t.size ≤ 1000) ∨ (0 < s.size ∧ s.size ≤ 1000 ∧ t.size ≤ 1000) by omega) with h | ⟨h2, h⟩ | ⟨h2, h⟩ | ⟨h2, h3, h⟩
  · exact texttells_great s t a w h0 h1 h
  · exact texttells_great2 s t a w h0 h1 h2 h
  · exact texttells_none s t a w h0 h1 h2 h
  · exact texttells_main s t a w h0 h1 h2 h3 h
end Go.Proofs.Ytoijmlombnnfbaa
