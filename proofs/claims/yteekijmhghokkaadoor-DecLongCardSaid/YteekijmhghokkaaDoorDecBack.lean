/-
  DecBack holds of every input: the walk.
-/
import Derived.Test.YteekijmhghokkaaDoorDecTexts

namespace Go.Proofs.YteekijmhghokkaaDoor
set_option linter.unusedVariables false
set_option linter.unusedSimpArgs false
open Go.RowKit Num Digs
theorem canon_right {s : Bool} {xs : List Nat} (h : CanonI s xs) : rightI s xs = true := by
  unfold rightI
  rw [Bool.and_eq_true]
  constructor
  · have h1 := h.1
    unfold Canon at h1
    rw [List.getLast?_eq_getElem?] at h1
    unfold rightB
    rw [Bool.or_eq_true]
    rcases Nat.eq_zero_or_pos xs.length with h0 | h0
    · exact .inl (by rw [h0]; rfl)
    · right
      rw [bne_iff_ne]
      rw [List.getElem?_eq_getElem (by omega)] at h1 ⊢
      exact fun e => h1 (by rw [← e]; rfl)
  · cases s
    · rfl
    · have := h.2 rfl
      simp
      exact List.length_pos_iff.2 this
theorem digs_few {xs : List Nat} (hd : Dig xs) (hl : xs.length ≤ 40) : (digs (val xs)).length ≤ 400 := by
  obtain ⟨M, hM⟩ : ∃ M, M = 400 := ⟨_, rfl⟩
  rw [← hM]
  refine digs_length_le (Nat.lt_of_lt_of_le (val_lt hd) (Nat.le_trans (pow_le_10 _) (Nat.pow_le_pow_right (by decide) (by omega)))) (by omega)
theorem text_few {s : Bool} {xs : List Nat} (hd : Dig xs) (hl : xs.length ≤ 40) : (text s (val xs)).length ≤ 401 := by
  have := digs_few hd hl
  unfold text
  split
  · rw [List.length_cons]; omega
  · omega
/-- Whether a text's number is told. -/
def okText (l : List UInt8) : Bool := okNum (body l) (neg l) && decide ((body l).length ≤ 400)
theorem ParseIs.ok {l : List UInt8} {s : Bool} {rs : List Nat} {er : Int} (h : ParseIs l s rs er) (k : okText l = true) : er = 0 := by
  unfold okText at k
  rw [Bool.and_eq_true] at k
  have k2 := of_decide_eq_true k.2
  rcases h with ⟨h, _⟩ | ⟨_, h, _⟩ | ⟨_, _, h, _⟩
  · rw [k.1] at h; cases h
  · omega
  · exact h
theorem ParseIs.not {l : List UInt8} {s : Bool} {rs : List Nat} {er : Int} (h : ParseIs l s rs er) (k : okText l = false) : er ≠ 0 := by
  unfold okText at k
  rcases h with ⟨_, h, _⟩ | ⟨_, _, h, _⟩ | ⟨h0, h1, _⟩
  · omega
  · omega
  · rw [h0, decide_eq_true h1] at k; cases k
set_option maxRecDepth 100000 in
set_option maxHeartbeats 6400000 in
theorem decback_great (g : Bool) (A : Option Addr) (c : Nat) (xs : List Nat) (s : ByteArray) (w : World) (h : Us w A c xs) (hn : 40 < xs.length) :
    Calls Tryd.prog 4 #[.agg #[.bool g, .slice A xs.length c], .string s] w fun e w' => e = .returned (.bool true) ∧ Below w.heap.size w w' := by
  have s0 := Sb.start1 h (.bool g) (.slice A xs.length c) 24
  have hcap := h.cap
  clear h
  go_enter Tryd.func4, Tryd.ntmps4
  go_wp2_with (first
    | (have _t := s0; go_at_call 7; clear _t; go_loud (refine (alive3_any _).mono ?_; rintro e w1 ⟨rfl, b⟩; have s1 := s0.step b; clear b s0; obtain ⟨x1, x2⟩ := s1.held1)))
  go_ret
  exact ⟨rfl, s1.1.1⟩
set_option maxRecDepth 100000 in
set_option maxHeartbeats 6400000 in
theorem decback_wrong (g : Bool) (A : Option Addr) (c : Nat) (xs : List Nat) (s : ByteArray) (w : World) (h : Us w A c xs) (hn : xs.length ≤ 40) (hr : rightI g xs = false) :
    Calls Tryd.prog 4 #[.agg #[.bool g, .slice A xs.length c], .string s] w fun e w' => e = .returned (.bool true) ∧ Below w.heap.size w w' := by
  have s0 := Sb.start1 h (.bool g) (.slice A xs.length c) 24
  have hcap := h.cap
  have HR := Lib.hid hr
  clear h hr
  go_enter Tryd.func4, Tryd.ntmps4
  go_wp2_with (first
    | (have _t := s0; go_at_call 7; clear _t; go_loud (refine (alive3_any _).mono ?_; rintro e w1 ⟨rfl, b⟩; have s1 := s0.step b; clear b s0; obtain ⟨x1, x2⟩ := s1.held1))
    | (have _t := s1; go_at_call 9; clear _t; go_loud (refine (rbright_any g _ _ xs _ (s1.get (by simp)) (by omega)).mono ?_; rintro e w3 ⟨rfl, b⟩; rw [HR.out]; have s3 := s1.step b; clear b s1 x1 x2; obtain ⟨x1, x2⟩ := s3.held1)))
  go_ret
  exact ⟨rfl, s3.1.1⟩
set_option maxRecDepth 100000 in
set_option maxHeartbeats 6400000 in
theorem decback_long (g : Bool) (A : Option Addr) (c : Nat) (xs : List Nat) (s : ByteArray) (w : World) (h : Us w A c xs) (hn : xs.length ≤ 40) (hr : rightI g xs = true) (hs : 600 < s.size) :
    Calls Tryd.prog 4 #[.agg #[.bool g, .slice A xs.length c], .string s] w fun e w' => e = .returned (.bool true) ∧ Below w.heap.size w w' := by
  have s0 := Sb.start1 h (.bool g) (.slice A xs.length c) 24
  have hcap := h.cap
  have HR := Lib.hid hr
  clear h hr
  go_enter Tryd.func4, Tryd.ntmps4
  go_wp2_with (first
    | (have _t := s0; go_at_call 7; clear _t; go_loud (refine (alive3_any _).mono ?_; rintro e w1 ⟨rfl, b⟩; have s1 := s0.step b; clear b s0; obtain ⟨x1, x2⟩ := s1.held1))
    | (have _t := s1; go_at_call 9; clear _t; go_loud (refine (rbright_any g _ _ xs _ (s1.get (by simp)) (by omega)).mono ?_; rintro e w3 ⟨rfl, b⟩; rw [HR.out]; have s3 := s1.step b; clear b s1 x1 x2; obtain ⟨x1, x2⟩ := s3.held1)))
  go_ret
  exact ⟨rfl, s3.1.1⟩
set_option maxRecDepth 100000 in
set_option maxHeartbeats 6400000 in
theorem decback_main (g : Bool) (A : Option Addr) (c : Nat) (xs : List Nat) (s : ByteArray) (w : World) (h : Us w A c xs) (hn : xs.length ≤ 40) (hr : rightI g xs = true) (hs : s.size ≤ 600) :
    Calls Tryd.prog 4 #[.agg #[.bool g, .slice A xs.length c], .string s] w fun e w' => e = .returned (.bool true) ∧ Below w.heap.size w w' := by
  have s0 := Sb.start1 h (.bool g) (.slice A xs.length c) 24
  have hcap := h.cap
  have hms : s.size ≤ maxLen := by unfold maxLen; omega
  have HR := Lib.hid (And.intro hr (And.intro (right_canon hr) h.1))
  obtain ⟨q, hq⟩ : ∃ q : ByteArray, q = ⟨(text g (val xs)).toArray⟩ := ⟨_, rfl⟩
  have hql : q.data.toList = text g (val xs) := by rw [hq]
  have hqs : q.size ≤ maxLen := by
    have h1 := ba_len q
    have h2 := text_few (s := g) h.1 hn
    rw [hql] at h1
    unfold maxLen
    omega
  have HQ := Lib.hid (And.intro hq (And.intro hql (digs_few h.1 hn)))
  clear h hr hq hql
  cases hok : okText s.data.toList
  all_goals
    have HO := Lib.hid hok
    clear hok
    go_enter Tryd.func4, Tryd.ntmps4
    go_wp2_with (first
      | (have _t := s0; go_at_call 7; clear _t; go_loud (refine (alive3_any _).mono ?_; rintro e w1 ⟨rfl, b⟩; have s1 := s0.step b; clear b s0; obtain ⟨x1, x2⟩ := s1.held1))
      | (have _t := s1; go_at_call 9; clear _t; go_loud (refine (rbright_any g _ _ xs _ (s1.get (by simp)) (by omega)).mono ?_; rintro e w3 ⟨rfl, b⟩; rw [HR.out.1]; have s3 := s1.step b; clear b s1 x1 x2; obtain ⟨x1, x2⟩ := s3.held1))
      | (have _t := s3; go_at_call 12; clear _t; go_loud (refine (text_any g _ _ xs _ (s3.get (by simp)) (by omega)).mono ?_; rintro e w4 ⟨rfl, b⟩; rw [← HQ.out.1]; have s4 := s3.step b; clear b s3 x1 x2; obtain ⟨x1, x2⟩ := s4.held1))
      | (have _t := s4; go_at_call 10; clear _t; go_loud (refine (parse_any q _ hqs).mono ?_; rintro e w5 ⟨g5, A5, c5, r5, e5, rfl, q5, k5, p5, b⟩; rw [HQ.out.2.1] at p5; obtain ⟨rfl, rfl, rfl⟩ := ParseIs.number p5 HR.out.2.1 k5 HR.out.2.2 q5.1 HQ.out.2.2; have s5 := (s4.call b q5).more (.bool g5) (.slice A5 r5.length c5) 24; clear b s4 x1 x2 q5 k5 p5))
      | (have _t := s5; go_at_call 10; clear _t; go_loud (refine (parse_any s _ hms).mono ?_; rintro e w6 ⟨g6, A6, c6, r6, e6, rfl, q6, k6, p6, b⟩; have s6 := (s5.call b q6).more (.bool g6) (.slice A6 r6.length c6) 24; have HP := Lib.hid (And.intro q6.1 (And.intro k6 p6)); have hl6 := ParseIs.few p6 k6.1; clear b s5 q6 k6; (first | (have he := ParseIs.ok p6 HO.out; subst he; clear p6) | (have he := ParseIs.not p6 HO.out; clear p6)); obtain ⟨x1, x2, y1, y2, z1, z2⟩ := s6.held3))
      | (have _t := s6; go_at_call 14; clear _t; go_loud (refine (rbsame_any g5 g5 _ _ _ _ r5 r5 _ (s6.get (by simp)) (s6.get (by simp)) (by omega)).mono ?_; rintro e w7 ⟨rfl, b⟩; rw [decide_eq_true (show g5 = g5 ∧ r5 = r5 from ⟨rfl, rfl⟩)]; have s7 := s6.step b; clear b s6 x1 x2 y1 y2 z1 z2; obtain ⟨x1, x2, y1, y2, z1, z2⟩ := s7.held3))
      | (have _t := s7; go_at_call 12; clear _t; go_loud (refine (text_any g6 _ _ r6 _ (s7.get (by simp)) (by omega)).mono ?_; rintro e w8 ⟨rfl, b⟩; rw [ParseIs.text HP.out.2.2, ← ba_of (t := s) rfl]; have s8 := s7.step b; clear b s7 x1 x2 y1 y2 z1 z2; obtain ⟨x1, x2, y1, y2, z1, z2⟩ := s8.held3))
      | (have _t := s8; go_at_call 9; clear _t; go_loud (refine (rbright_any g6 _ _ r6 _ (s8.get (by simp)) (by omega)).mono ?_; rintro e w9 ⟨rfl, b⟩; rw [canon_right HP.out.2.1]; have s9 := s8.step b; clear b s8 x1 x2 y1 y2 z1 z2)))
    go_ret
    first
      | exact ⟨rfl, s9.1.1⟩
      | exact ⟨rfl, s7.1.1⟩
theorem decback_any (g : Bool) (A : Option Addr) (c : Nat) (xs : List Nat) (s : ByteArray) (w : World) (h : Us w A c xs) :
    Calls Tryd.prog 4 #[.agg #[.bool g, .slice A xs.length c], .string s] w fun e w' => e = .returned (.bool true) ∧ Below w.heap.size w w' := by
  rcases Nat.lt_or_ge 40 xs.length with hn | hn
  · exact decback_great g A c xs s w h hn
  · cases hr : rightI g xs with
    | false => exact decback_wrong g A c xs s w h hn hr
    | true =>
      rcases Nat.lt_or_ge 600 s.size with hs | hs
      · exact decback_long g A c xs s w h hn hr hs
      · exact decback_main g A c xs s w h hn hr hs
end Go.Proofs.YteekijmhghokkaaDoor
