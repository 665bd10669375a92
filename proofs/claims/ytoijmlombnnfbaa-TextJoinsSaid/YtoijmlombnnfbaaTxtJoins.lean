/-
  TextJoins holds of every input: the walk.
-/
import Derived.Test.YtoijmlombnnfbaaTxtLaws

namespace Go.Proofs.Ytoijmlombnnfbaa
set_option linter.unusedVariables false
set_option linter.unusedSimpArgs false
open Go.RowKit Txt
theorem tx_app (a b : ByteArray) : (a ++ b).data.toList = a.data.toList ++ b.data.toList := by simp
theorem common_app (a b c : ByteArray) (w : World) (ha : a.size ≤ 200) (hb : b.size ≤ 200) (hc : c.size ≤ 200) (M : Nat) (hM : M = comm b.data.toList c.data.toList) :
    Calls Try.prog 11 #[.string (a ++ b), .string (a ++ c)] w fun e w' => e = .returned (.int .i64 ((a.size : Int) + (M : Int))) ∧ ∃ m, w' = w.drewN m := by
  have h := common_any (a ++ b) (a ++ c) w (by unfold maxLen; rw [ByteArray.size_append]; omega) (by unfold maxLen; rw [ByteArray.size_append]; omega)
  rw [tx_app, tx_app, comm_append, tx_len, ← hM] at h
  exact h
theorem rule_app (a b : ByteArray) (w : World) (ha : a.size ≤ 200) (hb : b.size ≤ 200) (h1 : ruleB a.data.toList = true) (h2 : ruleB b.data.toList = true) :
    Calls Try.prog 9 #[.string (a ++ b)] w fun e w' => e = .returned (.bool (decide ((a.size : Int) + (b.size : Int) ≤ 40))) ∧ w = w' := by
  have h := rule_any (a ++ b) w (by unfold maxLen; rw [ByteArray.size_append]; omega)
  rw [tx_app, ruleB_append h1 h2, tx_len, tx_len] at h
  exact h
set_option maxRecDepth 100000 in
set_option maxHeartbeats 3200000 in
theorem textjoins_out (a b c : ByteArray) (w : World) (h : 200 < a.size ∨ (a.size ≤ 200 ∧ 200 < b.size) ∨ (a.size ≤ 200 ∧ b.size ≤ 200 ∧ 200 < c.size)) :
    Calls Try.prog 5 #[.string a, .string b, .string c] w fun e w' => e = .returned (.bool true) ∧ ∃ m, w' = w.drewN m := by
  have q0 : True := trivial
  go_enter Try.func5, Try.ntmps5
  rcases h with h | ⟨h2, h⟩ | ⟨h2, h3, h⟩
  all_goals
    go_wp2_with (first
      | (have _t := q0; go_at_call 6; clear _t; go_loud (refine (alive4_any _).mono ?_; rintro e w1 ⟨rfl, m1, rfl⟩; have q1 := q0; clear q0)))
    go_ret
    exact ⟨rfl, qt_of _ _⟩
set_option maxRecDepth 100000 in
set_option maxHeartbeats 3200000 in
theorem textjoins_no1 (a b c : ByteArray) (w : World) (ha : a.size ≤ 200) (hb : b.size ≤ 200) (hc : c.size ≤ 200) (hr : ruleB a.data.toList = false) :
    Calls Try.prog 5 #[.string a, .string b, .string c] w fun e w' => e = .returned (.bool true) ∧ ∃ m, w' = w.drewN m := by
  have q0 : True := trivial
  have ha2 : a.size ≤ maxLen := by unfold maxLen; omega
  have hb2 : b.size ≤ maxLen := by unfold maxLen; omega
  have hc2 : c.size ≤ maxLen := by unfold maxLen; omega
  have ha3 : (a.size : Int) ≤ 200 := by omega
  have hb3 : (b.size : Int) ≤ 200 := by omega
  obtain ⟨M, hM⟩ : ∃ M : Nat, M = comm b.data.toList c.data.toList := ⟨_, rfl⟩
  obtain ⟨N, hN⟩ : ∃ N : Nat, N = comm a.data.toList b.data.toList := ⟨_, rfl⟩
  have hM2 : (M : Int) ≤ 200 := by
    have h1 := comm_le_left b.data.toList c.data.toList
    rw [← hM, tx_len] at h1
    omega
  have HM := Lib.hid hM
  have HN := Lib.hid hN
  have HN2 := Lib.hid (hN.trans (comm_swap _ _))
  clear hM hN
  have HR := Lib.hid hr
  clear hr
  go_enter Try.func5, Try.ntmps5
  go_wp2_with (first
    | (have _t := q0; go_at_call 6; clear _t; go_loud (refine (alive4_any _).mono ?_; rintro e w1 ⟨rfl, m1, rfl⟩; have q1 := q0; clear q0))
    | (have _t := q1; go_at_call 11; clear _t; go_loud (refine (common_app a b c _ ha hb hc M HM.out).mono ?_; rintro e w2 ⟨rfl, m2, rfl⟩; have q2 := q1; clear q1))
    | (have _t := q2; go_at_call 11; clear _t; go_loud (refine (common_any b c _ hb2 hc2).mono ?_; rintro e w2 ⟨rfl, m3, rfl⟩; rw [← HM.out]; have q3 := q2; clear q2))
    | (have _t := q3; go_at_call 11; clear _t; go_loud (refine (common_any a b _ ha2 hb2).mono ?_; rintro e w2 ⟨rfl, m4, rfl⟩; rw [← HN.out]; have q4 := q3; clear q3))
    | (have _t := q4; go_at_call 11; clear _t; go_loud (refine (common_any b a _ hb2 ha2).mono ?_; rintro e w2 ⟨rfl, m5, rfl⟩; rw [← HN2.out]; have q5 := q4; clear q4))
    | (have _t := q5; go_at_call 9; clear _t; go_loud (refine (rule_any a _ ha2).mono ?_; rintro e w2 ⟨rfl, rfl⟩; rw [HR.out]; have q6 := q5; clear q5)))
  go_ret
  exact ⟨rfl, qt_of _ _⟩
set_option maxRecDepth 100000 in
set_option maxHeartbeats 3200000 in
theorem textjoins_no2 (a b c : ByteArray) (w : World) (ha : a.size ≤ 200) (hb : b.size ≤ 200) (hc : c.size ≤ 200) (hr : ruleB a.data.toList = true) (hr2 : ruleB b.data.toList = false) :
    Calls Try.prog 5 #[.string a, .string b, .string c] w fun e w' => e = .returned (.bool true) ∧ ∃ m, w' = w.drewN m := by
  have q0 : True := trivial
  have ha2 : a.size ≤ maxLen := by unfold maxLen; omega
  have hb2 : b.size ≤ maxLen := by unfold maxLen; omega
  have hc2 : c.size ≤ maxLen := by unfold maxLen; omega
  have ha3 : (a.size : Int) ≤ 200 := by omega
  have hb3 : (b.size : Int) ≤ 200 := by omega
  obtain ⟨M, hM⟩ : ∃ M : Nat, M = comm b.data.toList c.data.toList := ⟨_, rfl⟩
  obtain ⟨N, hN⟩ : ∃ N : Nat, N = comm a.data.toList b.data.toList := ⟨_, rfl⟩
  have hM2 : (M : Int) ≤ 200 := by
    have h1 := comm_le_left b.data.toList c.data.toList
    rw [← hM, tx_len] at h1
    omega
  have HM := Lib.hid hM
  have HN := Lib.hid hN
  have HN2 := Lib.hid (hN.trans (comm_swap _ _))
  clear hM hN
  have HR := Lib.hid hr
  have HS := Lib.hid hr2
  clear hr hr2
  go_enter Try.func5, Try.ntmps5
  go_wp2_with (first
    | (have _t := q0; go_at_call 6; clear _t; go_loud (refine (alive4_any _).mono ?_; rintro e w1 ⟨rfl, m1, rfl⟩; have q1 := q0; clear q0))
    | (have _t := q1; go_at_call 11; clear _t; go_loud (refine (common_app a b c _ ha hb hc M HM.out).mono ?_; rintro e w2 ⟨rfl, m2, rfl⟩; have q2 := q1; clear q1))
    | (have _t := q2; go_at_call 11; clear _t; go_loud (refine (common_any b c _ hb2 hc2).mono ?_; rintro e w2 ⟨rfl, m3, rfl⟩; rw [← HM.out]; have q3 := q2; clear q2))
    | (have _t := q3; go_at_call 11; clear _t; go_loud (refine (common_any a b _ ha2 hb2).mono ?_; rintro e w2 ⟨rfl, m4, rfl⟩; rw [← HN.out]; have q4 := q3; clear q3))
    | (have _t := q4; go_at_call 11; clear _t; go_loud (refine (common_any b a _ hb2 ha2).mono ?_; rintro e w2 ⟨rfl, m5, rfl⟩; rw [← HN2.out]; have q5 := q4; clear q4))
    | (have _t := q5; go_at_call 9; clear _t; go_loud (refine (rule_any a _ ha2).mono ?_; rintro e w2 ⟨rfl, rfl⟩; rw [HR.out]; have q6 := q5; clear q5))
    | (have _t := q6; go_at_call 9; clear _t; go_loud (refine (rule_any b _ hb2).mono ?_; rintro e w2 ⟨rfl, rfl⟩; rw [HS.out]; have q7 := q6; clear q6)))
  go_ret
  exact ⟨rfl, qt_of _ _⟩
set_option maxRecDepth 100000 in
set_option maxHeartbeats 3200000 in
theorem textjoins_yes (a b c : ByteArray) (w : World) (ha : a.size ≤ 200) (hb : b.size ≤ 200) (hc : c.size ≤ 200) (hr : ruleB a.data.toList = true) (hr2 : ruleB b.data.toList = true) :
    Calls Try.prog 5 #[.string a, .string b, .string c] w fun e w' => e = .returned (.bool true) ∧ ∃ m, w' = w.drewN m := by
  have q0 : True := trivial
  have ha2 : a.size ≤ maxLen := by unfold maxLen; omega
  have hb2 : b.size ≤ maxLen := by unfold maxLen; omega
  have hc2 : c.size ≤ maxLen := by unfold maxLen; omega
  have ha3 : (a.size : Int) ≤ 200 := by omega
  have hb3 : (b.size : Int) ≤ 200 := by omega
  obtain ⟨M, hM⟩ : ∃ M : Nat, M = comm b.data.toList c.data.toList := ⟨_, rfl⟩
  obtain ⟨N, hN⟩ : ∃ N : Nat, N = comm a.data.toList b.data.toList := ⟨_, rfl⟩
  have hM2 : (M : Int) ≤ 200 := by
    have h1 := comm_le_left b.data.toList c.data.toList
    rw [← hM, tx_len] at h1
    omega
  have HM := Lib.hid hM
  have HN := Lib.hid hN
  have HN2 := Lib.hid (hN.trans (comm_swap _ _))
  clear hM hN
  have HR := Lib.hid hr
  have HS := Lib.hid hr2
  clear hr hr2
  go_enter Try.func5, Try.ntmps5
  go_wp2_with (first
    | (have _t := q0; go_at_call 6; clear _t; go_loud (refine (alive4_any _).mono ?_; rintro e w1 ⟨rfl, m1, rfl⟩; have q1 := q0; clear q0))
    | (have _t := q1; go_at_call 11; clear _t; go_loud (refine (common_app a b c _ ha hb hc M HM.out).mono ?_; rintro e w2 ⟨rfl, m2, rfl⟩; have q2 := q1; clear q1))
    | (have _t := q2; go_at_call 11; clear _t; go_loud (refine (common_any b c _ hb2 hc2).mono ?_; rintro e w2 ⟨rfl, m3, rfl⟩; rw [← HM.out]; have q3 := q2; clear q2))
    | (have _t := q3; go_at_call 11; clear _t; go_loud (refine (common_any a b _ ha2 hb2).mono ?_; rintro e w2 ⟨rfl, m4, rfl⟩; rw [← HN.out]; have q4 := q3; clear q3))
    | (have _t := q4; go_at_call 11; clear _t; go_loud (refine (common_any b a _ hb2 ha2).mono ?_; rintro e w2 ⟨rfl, m5, rfl⟩; rw [← HN2.out]; have q5 := q4; clear q4))
    | (have _t := q5; go_at_call 9; clear _t; go_loud (refine (rule_any a _ ha2).mono ?_; rintro e w2 ⟨rfl, rfl⟩; rw [HR.out]; have q6 := q5; clear q5))
    | (have _t := q6; go_at_call 9; clear _t; go_loud (refine (rule_any b _ hb2).mono ?_; rintro e w2 ⟨rfl, rfl⟩; rw [HS.out]; have q7 := q6; clear q6))
    | (have _t := q7; go_at_call 9; clear _t; go_loud (refine (rule_app a b _ ha hb HR.out HS.out).mono ?_; rintro e w2 ⟨rfl, rfl⟩; have q8 := q7; clear q7)))
  go_ret
  exact ⟨rfl, qt_of _ _⟩
theorem textjoins_any (a b c : ByteArray) (w : World) :
    Calls Try.prog 5 #[.string a, .string b, .string c] w fun e w' => e = .returned (.bool true) ∧ Below w.heap.size w w' := by
  suffices h : Calls Try.prog 5 #[.string a, .string b, .string c] w fun e w' => e = .returned (.bool true) ∧ ∃ m, w' = w.drewN m from h.mono fun _ _ ⟨he, h⟩ => ⟨he, qt_below h⟩
  rcases (show (200 < a.size ∨ (a.size ≤ 200 ∧ 200 < b.size) ∨ (a.size ≤ 200 ∧ b.size ≤ 200 ∧ 200 < c.size)) ∨ (a.size ≤ 200 ∧ b.size ≤ 200 ∧ c.size ≤ 200) by omega) with h | ⟨h1, h2, h3⟩
  · exact textjoins_out a b c w h
  · cases hr : ruleB a.data.toList with
    | false => exact textjoins_no1 a b c w h1 h2 h3 hr
    | true =>
      cases hr2 : ruleB b.data.toList with
      | false => exact textjoins_no2 a b c w h1 h2 h3 hr hr2
      | true => exact textjoins_yes a b c w h1 h2 h3 hr hr2
end Go.Proofs.Ytoijmlombnnfbaa
