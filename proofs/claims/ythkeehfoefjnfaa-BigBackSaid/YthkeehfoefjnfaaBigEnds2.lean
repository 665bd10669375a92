/-
  The laws of big numbers: the ways that answer at once; every input.
-/
import Derived.Test.YthkeehfoefjnfaaBigBackLaw
namespace Go.Proofs.Ythkeehfoefjnfaa
set_option linter.unusedVariables false
set_option linter.unusedSimpArgs false
open Go.RowKit Num

set_option maxRecDepth 100000 in
set_option maxHeartbeats 3200000 in
theorem bigback_gx (s t : Bool) (A B : Option Addr) (c d : Nat) (xs ys : List Nat) (n : Int) (w : World) (h : Us w A c xs) (k : Us w B d ys) (hn : 60 < xs.length) :
    Calls Try.prog 9 #[.agg #[.bool s, .slice A xs.length c], .agg #[.bool t, .slice B ys.length d], .int .u8 n] w fun e w' => e = .returned (.bool true) ∧ Below w.heap.size w w' := by
  have s0 := Sb.start h k (.bool s) (.slice A xs.length c) (.bool t) (.slice B ys.length d) 43
  have hcap := h.cap
  have kcap := k.cap
  clear h k
  go_enter Try.func9, Try.ntmps9
  go_wp2_with (first
    | (have _t := s0; go_at_call 34; clear _t; go_loud (refine (alive2_any _).mono ?_; rintro e w1 ⟨rfl, b⟩; have s1 := s0.step b; clear b s0; obtain ⟨x1, x2, z1, z2⟩ := s1.held2))
    | (have _t := s1; go_at_call 35; clear _t; go_loud (refine (great_yes s _ _ _ _ hn (by omega)).mono ?_; rintro e w2 ⟨rfl, b⟩; have s2 := s1.step b; clear b s1 x1 x2 z1 z2; obtain ⟨x1, x2, z1, z2⟩ := s2.held2)))
  go_ret
  exact ⟨rfl, s2.1.1⟩

set_option maxRecDepth 100000 in
set_option maxHeartbeats 3200000 in
theorem bigback_gy (s t : Bool) (A B : Option Addr) (c d : Nat) (xs ys : List Nat) (n : Int) (w : World) (h : Us w A c xs) (k : Us w B d ys) (hn : xs.length ≤ 60) (hm : 60 < ys.length) :
    Calls Try.prog 9 #[.agg #[.bool s, .slice A xs.length c], .agg #[.bool t, .slice B ys.length d], .int .u8 n] w fun e w' => e = .returned (.bool true) ∧ Below w.heap.size w w' := by
  have s0 := Sb.start h k (.bool s) (.slice A xs.length c) (.bool t) (.slice B ys.length d) 43
  have hcap := h.cap
  have kcap := k.cap
  clear h k
  go_enter Try.func9, Try.ntmps9
  go_wp2_with (first
    | (have _t := s0; go_at_call 34; clear _t; go_loud (refine (alive2_any _).mono ?_; rintro e w1 ⟨rfl, b⟩; have s1 := s0.step b; clear b s0; obtain ⟨x1, x2, z1, z2⟩ := s1.held2))
    | (have _t := s1; go_at_call 35; clear _t; go_loud (refine (great_no s _ _ _ _ hn).mono ?_; rintro e w2 ⟨rfl, b⟩; have s2 := s1.step b; clear b s1 x1 x2 z1 z2; obtain ⟨x1, x2, z1, z2⟩ := s2.held2))
    | (have _t := s2; go_at_call 35; clear _t; go_loud (refine (great_yes t _ _ _ _ hm (by omega)).mono ?_; rintro e w3 ⟨rfl, b⟩; have s3 := s2.step b; clear b s2 x1 x2 z1 z2; obtain ⟨x1, x2, z1, z2⟩ := s3.held2)))
  go_ret
  exact ⟨rfl, s3.1.1⟩

set_option maxRecDepth 100000 in
set_option maxHeartbeats 3200000 in
theorem bigback_wx (s t : Bool) (A B : Option Addr) (c d : Nat) (xs ys : List Nat) (n : Int) (w : World) (h : Us w A c xs) (k : Us w B d ys) (hn : xs.length ≤ 60) (hm : ys.length ≤ 60) (hr : rightI s xs = false) :
    Calls Try.prog 9 #[.agg #[.bool s, .slice A xs.length c], .agg #[.bool t, .slice B ys.length d], .int .u8 n] w fun e w' => e = .returned (.bool true) ∧ Below w.heap.size w w' := by
  have s0 := Sb.start h k (.bool s) (.slice A xs.length c) (.bool t) (.slice B ys.length d) 43
  have hcap := h.cap
  have kcap := k.cap
  have HR := Lib.hid hr
  clear hr
  clear h k
  go_enter Try.func9, Try.ntmps9
  go_wp2_with (first
    | (have _t := s0; go_at_call 34; clear _t; go_loud (refine (alive2_any _).mono ?_; rintro e w1 ⟨rfl, b⟩; have s1 := s0.step b; clear b s0; obtain ⟨x1, x2, z1, z2⟩ := s1.held2))
    | (have _t := s1; go_at_call 35; clear _t; go_loud (refine (great_no s _ _ _ _ hn).mono ?_; rintro e w2 ⟨rfl, b⟩; have s2 := s1.step b; clear b s1 x1 x2 z1 z2; obtain ⟨x1, x2, z1, z2⟩ := s2.held2))
    | (have _t := s2; go_at_call 35; clear _t; go_loud (refine (great_no t _ _ _ _ hm).mono ?_; rintro e w3 ⟨rfl, b⟩; have s3 := s2.step b; clear b s2 x1 x2 z1 z2; obtain ⟨x1, x2, z1, z2⟩ := s3.held2))
    | (have _t := s3; go_at_call 41; clear _t; go_loud (refine (rbright_any s _ _ xs _ (s3.get (by simp)) (by omega)).mono ?_; rintro e w4 ⟨rfl, b⟩; rw [HR.out]; have s4 := s3.step b; clear b s3 x1 x2 z1 z2; obtain ⟨x1, x2, z1, z2⟩ := s4.held2)))
  go_ret
  exact ⟨rfl, s4.1.1⟩

set_option maxRecDepth 100000 in
set_option maxHeartbeats 3200000 in
theorem bigback_wy (s t : Bool) (A B : Option Addr) (c d : Nat) (xs ys : List Nat) (n : Int) (w : World) (h : Us w A c xs) (k : Us w B d ys) (hn : xs.length ≤ 60) (hm : ys.length ≤ 60) (hr : rightI s xs = true) (kr : rightI t ys = false) :
    Calls Try.prog 9 #[.agg #[.bool s, .slice A xs.length c], .agg #[.bool t, .slice B ys.length d], .int .u8 n] w fun e w' => e = .returned (.bool true) ∧ Below w.heap.size w w' := by
  have s0 := Sb.start h k (.bool s) (.slice A xs.length c) (.bool t) (.slice B ys.length d) 43
  have hcap := h.cap
  have kcap := k.cap
  have HR := Lib.hid hr
  have KR := Lib.hid kr
  clear hr kr
  clear h k
  go_enter Try.func9, Try.ntmps9
  go_wp2_with (first
    | (have _t := s0; go_at_call 34; clear _t; go_loud (refine (alive2_any _).mono ?_; rintro e w1 ⟨rfl, b⟩; have s1 := s0.step b; clear b s0; obtain ⟨x1, x2, z1, z2⟩ := s1.held2))
    | (have _t := s1; go_at_call 35; clear _t; go_loud (refine (great_no s _ _ _ _ hn).mono ?_; rintro e w2 ⟨rfl, b⟩; have s2 := s1.step b; clear b s1 x1 x2 z1 z2; obtain ⟨x1, x2, z1, z2⟩ := s2.held2))
    | (have _t := s2; go_at_call 35; clear _t; go_loud (refine (great_no t _ _ _ _ hm).mono ?_; rintro e w3 ⟨rfl, b⟩; have s3 := s2.step b; clear b s2 x1 x2 z1 z2; obtain ⟨x1, x2, z1, z2⟩ := s3.held2))
    | (have _t := s3; go_at_call 41; clear _t; go_loud (refine (rbright_any s _ _ xs _ (s3.get (by simp)) (by omega)).mono ?_; rintro e w4 ⟨rfl, b⟩; rw [HR.out]; have s4 := s3.step b; clear b s3 x1 x2 z1 z2; obtain ⟨x1, x2, z1, z2⟩ := s4.held2))
    | (have _t := s4; go_at_call 41; clear _t; go_loud (refine (rbright_any t _ _ ys _ (s4.get (by simp)) (by omega)).mono ?_; rintro e w5 ⟨rfl, b⟩; rw [KR.out]; have s5 := s4.step b; clear b s4 x1 x2 z1 z2; obtain ⟨x1, x2, z1, z2⟩ := s5.held2)))
  go_ret
  exact ⟨rfl, s5.1.1⟩

theorem bigback_any (s t : Bool) (A B : Option Addr) (c d : Nat) (xs ys : List Nat) (n : Int) (w : World) (h : Us w A c xs) (k : Us w B d ys) (n0 : 0 ≤ n) (n1 : n ≤ 255) :
    Calls Try.prog 9 #[.agg #[.bool s, .slice A xs.length c], .agg #[.bool t, .slice B ys.length d], .int .u8 n] w fun e w' => e = .returned (.bool true) ∧ Below w.heap.size w w' := by
  rcases Nat.lt_or_ge 60 xs.length with hn | hn
  · exact bigback_gx s t A B c d xs ys n w h k hn
  · rcases Nat.lt_or_ge 60 ys.length with hm | hm
    · exact bigback_gy s t A B c d xs ys n w h k hn hm
    · rcases Bool.eq_false_or_eq_true (rightI s xs) with hr | hr
      · rcases Bool.eq_false_or_eq_true (rightI t ys) with kr | kr
        · exact bback_main s t A B c d xs ys n w h k hn hm hr kr n0 n1
        · exact bigback_wy s t A B c d xs ys n w h k hn hm hr kr
      · exact bigback_wx s t A B c d xs ys n w h k hn hm hr

end Go.Proofs.Ythkeehfoefjnfaa
