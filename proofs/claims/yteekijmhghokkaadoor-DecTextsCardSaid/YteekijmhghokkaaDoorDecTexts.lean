/-
  DecTexts and DecBack hold of every input.
-/
import Derived.Test.YteekijmhghokkaaDoorDecAlive

namespace Go.Proofs.YteekijmhghokkaaDoor
set_option linter.unusedVariables false
set_option linter.unusedSimpArgs false
open Go.RowKit Num Digs
theorem Sb.more {w W : World} {l : List (Option Addr × Nat × List Nat)} {bs : List (Nat × Value × Value)} (s : Sb w W l bs) (x y : Value) (t : TypeId) : Sb w (W.alloc (.cells #[x, y] t)) l ((W.heap.size, x, y) :: bs) := by
  have h := s.step ((Below.refl W.heap.size W).alloc (Nat.le_refl _) (.cells #[x, y] t))
  refine ⟨h.1, fun u hu => ?_⟩
  rcases List.mem_cons.1 hu with rfl | hu
  · exact Box.new W x y t
  · exact h.2 u hu
theorem Sb.start1 {w : World} {A : Option Addr} {c : Nat} {xs : List Nat} (h : Us w A c xs) (x y : Value) (t : TypeId) : Sb w (w.alloc (.cells #[x, y] t)) [(A, c, xs)] [(w.heap.size, x, y)] :=
  Sb.more (bs := []) ⟨⟨Below.refl _ _, fun u hu => by simp only [List.mem_singleton] at hu; subst hu; exact h⟩, fun u hu => by cases hu⟩ x y t
theorem Sb.held3 {w W : World} {l : List (Option Addr × Nat × List Nat)} {a b c : Nat} {a1 a2 b1 b2 c1 c2 : Value} (s : Sb w W l [(a, a1, a2), (b, b1, b2), (c, c1, c2)]) :
    W.cell? ⟨a, 0, none⟩ = some a1 ∧ W.cell? ⟨a, 1, none⟩ = some a2 ∧ W.cell? ⟨b, 0, none⟩ = some b1 ∧ W.cell? ⟨b, 1, none⟩ = some b2 ∧ W.cell? ⟨c, 0, none⟩ = some c1 ∧ W.cell? ⟨c, 1, none⟩ = some c2 := by
  have ha := s.box (g := a) (x := a1) (y := a2) (by simp)
  have hb := s.box (g := b) (x := b1) (y := b2) (by simp)
  have hc := s.box (g := c) (x := c1) (y := c2) (by simp)
  exact ⟨ha.1, ha.2.1, hb.1, hb.2.1, hc.1, hc.2.1⟩
theorem ParseIs.few {l : List UInt8} {s : Bool} {rs : List Nat} {er : Int} (h : ParseIs l s rs er) (hc : Canon rs) : rs.length ≤ 400 := by
  rcases h with ⟨_, _, _, h⟩ | ⟨_, _, _, _, h⟩ | ⟨h0, h1, _, _, h3⟩
  · rw [h]; simp
  · rw [h]; simp
  · obtain ⟨M, hM⟩ : ∃ M, M = 400 := ⟨_, rfl⟩
    rw [← hM] at h1 ⊢
    refine len_le hc ?_
    rw [h3]
    have h4 := num_lt _ (isNum_all (okNum_isd h0))
    exact Nat.lt_of_lt_of_le h4 (Nat.le_trans (Nat.pow_le_pow_right (by decide) h1) (Nat.pow_le_pow_left (by decide) _))
set_option maxRecDepth 100000 in
set_option maxHeartbeats 6400000 in
theorem dectexts_great (g : Bool) (A : Option Addr) (c : Nat) (xs : List Nat) (s : ByteArray) (a : Int) (w : World) (h : Us w A c xs) (hn : 60 < xs.length) :
    Calls Tryd.prog 3 #[.agg #[.bool g, .slice A xs.length c], .string s, .int .i64 a] w fun e w' => e = .returned (.bool true) ∧ Below w.heap.size w w' := by
  have s0 := Sb.start1 h (.bool g) (.slice A xs.length c) 24
  have hcap := h.cap
  clear h
  go_enter Tryd.func3, Tryd.ntmps3
  go_wp2_with (first
    | (have _t := s0; go_at_call 7; clear _t; go_loud (refine (alive3_any _).mono ?_; rintro e w1 ⟨rfl, b⟩; have s1 := s0.step b; clear b s0; obtain ⟨x1, x2⟩ := s1.held1))
    | (have _t := s1; go_at_call 8; clear _t; go_loud (refine (great_yes g _ _ _ _ hn (by omega)).mono ?_; rintro e w2 ⟨rfl, b⟩; have s2 := s1.step b; clear b s1 x1 x2; obtain ⟨x1, x2⟩ := s2.held1)))
  go_ret
  exact ⟨rfl, s2.1.1⟩
set_option maxRecDepth 100000 in
set_option maxHeartbeats 6400000 in
theorem dectexts_wrong (g : Bool) (A : Option Addr) (c : Nat) (xs : List Nat) (s : ByteArray) (a : Int) (w : World) (h : Us w A c xs) (hn : xs.length ≤ 60) (hr : rightI g xs = false) :
    Calls Tryd.prog 3 #[.agg #[.bool g, .slice A xs.length c], .string s, .int .i64 a] w fun e w' => e = .returned (.bool true) ∧ Below w.heap.size w w' := by
  have s0 := Sb.start1 h (.bool g) (.slice A xs.length c) 24
  have hcap := h.cap
  have HR := Lib.hid hr
  clear h hr
  go_enter Tryd.func3, Tryd.ntmps3
  go_wp2_with (first
    | (have _t := s0; go_at_call 7; clear _t; go_loud (refine (alive3_any _).mono ?_; rintro e w1 ⟨rfl, b⟩; have s1 := s0.step b; clear b s0; obtain ⟨x1, x2⟩ := s1.held1))
    | (have _t := s1; go_at_call 8; clear _t; go_loud (refine (great_no g _ _ _ _ hn).mono ?_; rintro e w2 ⟨rfl, b⟩; have s2 := s1.step b; clear b s1 x1 x2; obtain ⟨x1, x2⟩ := s2.held1))
    | (have _t := s2; go_at_call 9; clear _t; go_loud (refine (rbright_any g _ _ xs _ (s2.get (by simp)) (by omega)).mono ?_; rintro e w3 ⟨rfl, b⟩; rw [HR.out]; have s3 := s2.step b; clear b s2 x1 x2; obtain ⟨x1, x2⟩ := s3.held1)))
  go_ret
  exact ⟨rfl, s3.1.1⟩
set_option maxRecDepth 100000 in
set_option maxHeartbeats 6400000 in
theorem dectexts_long (g : Bool) (A : Option Addr) (c : Nat) (xs : List Nat) (s : ByteArray) (a : Int) (w : World) (h : Us w A c xs) (hn : xs.length ≤ 60) (hr : rightI g xs = true) (hs : 600 < s.size) :
    Calls Tryd.prog 3 #[.agg #[.bool g, .slice A xs.length c], .string s, .int .i64 a] w fun e w' => e = .returned (.bool true) ∧ Below w.heap.size w w' := by
  have s0 := Sb.start1 h (.bool g) (.slice A xs.length c) 24
  have hcap := h.cap
  have HR := Lib.hid hr
  clear h hr
  go_enter Tryd.func3, Tryd.ntmps3
  go_wp2_with (first
    | (have _t := s0; go_at_call 7; clear _t; go_loud (refine (alive3_any _).mono ?_; rintro e w1 ⟨rfl, b⟩; have s1 := s0.step b; clear b s0; obtain ⟨x1, x2⟩ := s1.held1))
    | (have _t := s1; go_at_call 8; clear _t; go_loud (refine (great_no g _ _ _ _ hn).mono ?_; rintro e w2 ⟨rfl, b⟩; have s2 := s1.step b; clear b s1 x1 x2; obtain ⟨x1, x2⟩ := s2.held1))
    | (have _t := s2; go_at_call 9; clear _t; go_loud (refine (rbright_any g _ _ xs _ (s2.get (by simp)) (by omega)).mono ?_; rintro e w3 ⟨rfl, b⟩; rw [HR.out]; have s3 := s2.step b; clear b s2 x1 x2; obtain ⟨x1, x2⟩ := s3.held1)))
  go_ret
  exact ⟨rfl, s3.1.1⟩
set_option maxRecDepth 100000 in
set_option maxHeartbeats 6400000 in
theorem dectexts_main (g : Bool) (A : Option Addr) (c : Nat) (xs : List Nat) (s : ByteArray) (a : Int) (w : World) (h : Us w A c xs) (hn : xs.length ≤ 60) (hr : rightI g xs = true) (hs : s.size ≤ 600) (a0 : -9223372036854775808 ≤ a) (a1 : a ≤ 9223372036854775807) :
    Calls Tryd.prog 3 #[.agg #[.bool g, .slice A xs.length c], .string s, .int .i64 a] w fun e w' => e = .returned (.bool true) ∧ Below w.heap.size w w' := by
  have s0 := Sb.start1 h (.bool g) (.slice A xs.length c) 24
  have hcap := h.cap
  have hms : s.size ≤ maxLen := by unfold maxLen; omega
  have HR := Lib.hid hr
  obtain ⟨q, hq⟩ : ∃ q : ByteArray, q = ⟨(text g (val xs)).toArray⟩ := ⟨_, rfl⟩
  have HQ := Lib.hid hq
  obtain ⟨z, hz⟩ : ∃ z : Int, z = leadAt s.data.toList a := ⟨_, rfl⟩
  have HZ := Lib.hid hz
  clear h hr hq hz
  go_enter Tryd.func3, Tryd.ntmps3
  go_wp2_with (first
    | (have _t := s0; go_at_call 7; clear _t; go_loud (refine (alive3_any _).mono ?_; rintro e w1 ⟨rfl, b⟩; have s1 := s0.step b; clear b s0; obtain ⟨x1, x2⟩ := s1.held1))
    | (have _t := s1; go_at_call 8; clear _t; go_loud (refine (great_no g _ _ _ _ hn).mono ?_; rintro e w2 ⟨rfl, b⟩; have s2 := s1.step b; clear b s1 x1 x2; obtain ⟨x1, x2⟩ := s2.held1))
    | (have _t := s2; go_at_call 9; clear _t; go_loud (refine (rbright_any g _ _ xs _ (s2.get (by simp)) (by omega)).mono ?_; rintro e w3 ⟨rfl, b⟩; rw [HR.out]; have s3 := s2.step b; clear b s2 x1 x2; obtain ⟨x1, x2⟩ := s3.held1))
    | (have _t := s3; go_at_call 10; clear _t; go_loud (refine (parse_any s _ hms).mono ?_; rintro e w4 ⟨g4, A4, c4, r4, e4, rfl, q4, k4, p4, b⟩; have s4 := (s3.call b q4).more (.bool g4) (.slice A4 r4.length c4) 24; have HP := Lib.hid (And.intro q4.1 (And.intro k4 p4)); clear b s3 x1 x2 q4 k4 p4))
    | (have _t := s4; go_at_call 11; clear _t; go_loud (refine (rparse_any s _ hms).mono ?_; rintro e w5 ⟨g5, A5, c5, r5, e5, rfl, q5, k5, p5, b⟩; obtain ⟨rfl, rfl, rfl⟩ := ParseIs.same HP.out.2.2 p5 HP.out.2.1 k5 HP.out.1 q5.1; have s5 := (s4.call b q5).more (.bool g4) (.slice A5 r4.length c5) 24; clear b s4 q5 k5 p5)))
  have hl4 := ParseIs.few HP.out.2.2 HP.out.2.1.1
  have s6 := s5.drew
  clear s5
  go_region_held3 (fun w' => w'.cell? ⟨w5.heap.size, 0, none⟩ = some (.bool g4) ∧ w'.cell? ⟨w5.heap.size, 1, none⟩ = some (.slice A5 r4.length c5) ∧ w'.cell? ⟨w4.heap.size, 0, none⟩ = some (.bool g4) ∧ w'.cell? ⟨w4.heap.size, 1, none⟩ = some (.slice A4 r4.length c4) ∧ w'.cell? ⟨w.heap.size, 0, none⟩ = some (.bool g) ∧ w'.cell? ⟨w.heap.size, 1, none⟩ = some (.slice A xs.length c))
    (exact Sb.held3 (by assumption))
    (first
    | (have _t := s6; go_at_call 12; clear _t; go_loud (refine (text_any g _ _ xs _ (s6.get (by simp)) (by omega)).mono ?_; rintro e w7 ⟨rfl, b⟩; rw [← HQ.out]; have s7 := s6.step b; clear b s6))
    | (have _t := s7; go_at_call 13; clear _t; go_loud (refine (rtext_any g _ _ xs _ (s7.get (by simp)) (by omega)).mono ?_; rintro e w8 ⟨rfl, b⟩; rw [← HQ.out]; have s8 := s7.step b; clear b s7))
    | (have _t := s8; go_at_call 14; clear _t; go_loud (refine (rbsame_any g4 g4 _ _ _ _ r4 r4 _ (s8.get (by simp)) (s8.get (by simp)) (by omega)).mono ?_; rintro e w9 ⟨rfl, b⟩; rw [decide_eq_true (show g4 = g4 ∧ r4 = r4 from ⟨rfl, rfl⟩)]; have s9 := s8.step b; clear b s8))
    | (have _t := s9; go_at_call 15; clear _t; go_loud (refine (digits_any s a _ hms a0 a1).mono ?_; rintro e w10 ⟨rfl, b⟩; rw [← HZ.out]; have s10 := s9.step b; clear b s9))
    | (have _t := s10; go_at_call 16; clear _t; go_loud (refine (rdigits_any s a _ hms a0 a1).mono ?_; rintro e w11 ⟨rfl, b⟩; rw [← HZ.out]; have s11 := s10.step b; clear b s10)))
  go_wp2
  go_ret
  exact ⟨rfl, s11.1.1⟩
theorem dectexts_any (g : Bool) (A : Option Addr) (c : Nat) (xs : List Nat) (s : ByteArray) (a : Int) (w : World) (h : Us w A c xs) (a0 : -9223372036854775808 ≤ a) (a1 : a ≤ 9223372036854775807) :
    Calls Tryd.prog 3 #[.agg #[.bool g, .slice A xs.length c], .string s, .int .i64 a] w fun e w' => e = .returned (.bool true) ∧ Below w.heap.size w w' := by
  rcases Nat.lt_or_ge 60 xs.length with hn | hn
  · exact dectexts_great g A c xs s a w h hn
  · cases hr : rightI g xs with
    | false => exact dectexts_wrong g A c xs s a w h hn hr
    | true =>
      rcases Nat.lt_or_ge 600 s.size with hs | hs
      · exact dectexts_long g A c xs s a w h hn hr hs
      · exact dectexts_main g A c xs s a w h hn hr hs a0 a1
end Go.Proofs.YteekijmhghokkaaDoor
