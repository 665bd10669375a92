/-
  What the laws of texts of numbers ask first: the document's examples; texts come back.
-/
import Derived.Test.YteekijmhghokkaaDoorDecRParse
import Derived.Test.YteekijmhghokkaaDoorDecRText
import Derived.Test.YteekijmhghokkaaDoorNumbD
import Derived.Test.YteekijmhghokkaaDoorNumbB

namespace Go.Proofs.YteekijmhghokkaaDoor
set_option linter.unusedVariables false
set_option linter.unusedSimpArgs false
open Go.RowKit Num Digs
theorem digs_head (n : Nat) : (digs n).head? ≠ some 45 := by
  rcases Nat.eq_zero_or_pos n with rfl | h
  · simp [digs]
  · obtain ⟨r, d, h1, h2, h3⟩ := digs_pos h
    rw [h1]
    intro e
    simp at e
    exact dig_ne_minus h3 e
theorem neg_text (s : Bool) (n : Nat) : neg (text s n) = s := by
  unfold neg text
  cases s
  · exact decide_eq_false (digs_head n)
  · rfl
theorem body_text (s : Bool) (n : Nat) : body (text s n) = digs n := by
  unfold body
  rw [neg_text]
  cases s <;> rfl
theorem okNum_digs {s : Bool} {n : Nat} (h : s = true → 0 < n) : okNum (digs n) s = true := by
  refine isNum_ok (isNum_digs n) (fun hs e => ?_)
  have h1 := num_digs n
  rw [e] at h1
  have h2 := h hs
  have : num [48] = 0 := rfl
  omega
theorem canonI_pos {s : Bool} {xs : List Nat} (h : CanonI s xs) : s = true → 0 < val xs := fun hs => by
  rcases Nat.eq_zero_or_pos (val xs) with h0 | h0
  · exact absurd (canon_zero h.1 h0) (h.2 hs)
  · exact h0
/-- Numbers come back of their texts. -/
theorem ParseIs.number {s t : Bool} {xs rs : List Nat} {er : Int} (h : ParseIs (text s (val xs)) t rs er) (hc : CanonI s xs) (kc : CanonI t rs) (hd : Dig xs) (kd : Dig rs) (hl : (digs (val xs)).length ≤ 400) : er = 0 ∧ t = s ∧ rs = xs := by
  have hok := okNum_digs (canonI_pos hc)
  unfold ParseIs at h
  rw [neg_text, body_text, num_digs, hok] at h
  rcases h with ⟨h1, _⟩ | ⟨_, h1, _⟩ | ⟨_, _, h1, h2, h3⟩
  · cases h1
  · omega
  · exact ⟨h1, h2, uniq kd hd kc.1 hc.1 h3⟩
/-- Texts come back of their numbers. -/
theorem ParseIs.text {l : List UInt8} {t : Bool} {rs : List Nat} (h : ParseIs l t rs 0) : text t (val rs) = l := by
  rcases h with ⟨_, h1, _⟩ | ⟨_, _, h1, _⟩ | ⟨h0, _, h1, h2, h3⟩
  · cases h1
  · cases h1
  · have h4 := digs_num (okNum_isd h0)
    rw [h2, h3]
    unfold Digs.text
    rw [h4]
    unfold body neg
    cases l with
    | nil => rfl
    | cons x r =>
      by_cases hx : x = 45
      · subst hx
        simp
      · simp [hx]
/-- It is one answer. -/
theorem ParseIs.same {l : List UInt8} {s t : Bool} {xs rs : List Nat} {er er2 : Int} (h : ParseIs l s xs er) (k : ParseIs l t rs er2) (hc : CanonI s xs) (kc : CanonI t rs) (hd : Dig xs) (kd : Dig rs) : er = er2 ∧ s = t ∧ xs = rs := by
  rcases h with ⟨h0, h1, h2, h3⟩ | ⟨h0, h4, h1, h2, h3⟩ | ⟨h0, h4, h1, h2, h3⟩ <;> rcases k with ⟨k0, k1, k2, k3⟩ | ⟨k0, k4, k1, k2, k3⟩ | ⟨k0, k4, k1, k2, k3⟩
  all_goals first
    | (rw [h0] at k0; cases k0; done)
    | omega
    | exact ⟨by rw [h1, k1], by rw [h2, k2], by rw [h3, k3]⟩
    | exact ⟨by rw [h1, k1], by rw [h2, k2], uniq hd kd hc.1 kc.1 (by rw [h3, k3])⟩
theorem lit_is : ParseIs [45, 49, 56, 52, 52, 54, 55, 52, 52, 48, 55, 51, 55, 48, 57, 53, 53, 49, 54, 49, 54] true [0, 0, 1] 0 :=
  .inr (.inr ⟨by decide +kernel, by decide +kernel, rfl, by decide +kernel, by decide +kernel⟩)
theorem lit_canon : CanonI true [0, 0, 1] := ⟨by simp [Canon], by simp⟩
theorem lit_dig : Dig [0, 0, 1] := Dig.cons (by decide) (Dig.cons (by decide) (Dig.cons (by decide) Dig.nil))
theorem lit_text : text true (val [0, 0, 1]) = [45, 49, 56, 52, 52, 54, 55, 52, 52, 48, 55, 51, 55, 48, 57, 53, 53, 49, 54, 49, 54] := lit_is.text
theorem lit_nought : ∀ {s : Bool} {rs : List Nat} {er : Int}, ParseIs [45, 48] s rs er → er = 2 ∧ s = false ∧ rs = [] := fun h => by
  have e : okNum (body [45, 48]) (neg [45, 48]) = false := by decide +kernel
  unfold ParseIs at h
  rw [e] at h
  rcases h with ⟨_, h⟩ | ⟨h, _⟩ | ⟨h, _⟩
  · exact h
  · cases h
  · cases h
theorem lit_seven : ∀ {s : Bool} {rs : List Nat} {er : Int}, ParseIs [48, 48, 55] s rs er → er = 2 ∧ s = false ∧ rs = [] := fun h => by
  have e : okNum (body [48, 48, 55]) (neg [48, 48, 55]) = false := by decide +kernel
  unfold ParseIs at h
  rw [e] at h
  rcases h with ⟨_, h⟩ | ⟨h, _⟩ | ⟨h, _⟩
  · exact h
  · cases h
  · cases h
/-- Parse at the examples. -/
theorem parse_nought (w : World) : Calls Tryd.prog 10 #[.string ⟨#[45, 48]⟩] w fun e w' => (∃ A c, e = .returned (.tuple #[.agg #[.bool false, .slice A 0 c], .int .i64 2])) ∧ Below w.heap.size w w' := by
  refine (parse_any ⟨#[45, 48]⟩ w (by unfold maxLen; decide)).mono ?_
  rintro e w' ⟨s, A, c, rs, er, rfl, q, k, p, b⟩
  obtain ⟨rfl, rfl, rfl⟩ := lit_nought p
  exact ⟨⟨A, c, rfl⟩, b⟩
theorem parse_seven (w : World) : Calls Tryd.prog 10 #[.string ⟨#[48, 48, 55]⟩] w fun e w' => (∃ A c, e = .returned (.tuple #[.agg #[.bool false, .slice A 0 c], .int .i64 2])) ∧ Below w.heap.size w w' := by
  refine (parse_any ⟨#[48, 48, 55]⟩ w (by unfold maxLen; decide)).mono ?_
  rintro e w' ⟨s, A, c, rs, er, rfl, q, k, p, b⟩
  obtain ⟨rfl, rfl, rfl⟩ := lit_seven p
  exact ⟨⟨A, c, rfl⟩, b⟩
theorem parse_lit (w : World) : Calls Tryd.prog 10 #[.string ⟨#[45, 49, 56, 52, 52, 54, 55, 52, 52, 48, 55, 51, 55, 48, 57, 53, 53, 49, 54, 49, 54]⟩] w fun e w' => ∃ A c, e = .returned (.tuple #[.agg #[.bool true, .slice A 3 c], .int .i64 0]) ∧ Us w' A c [0, 0, 1] ∧ Below w.heap.size w w' := by
  refine (parse_any ⟨#[45, 49, 56, 52, 52, 54, 55, 52, 52, 48, 55, 51, 55, 48, 57, 53, 53, 49, 54, 49, 54]⟩ w (by unfold maxLen; decide)).mono ?_
  rintro e w' ⟨s, A, c, rs, er, rfl, q, k, p, b⟩
  obtain ⟨rfl, rfl, rfl⟩ := ParseIs.same p lit_is k lit_canon q.1 lit_dig
  exact ⟨A, c, rfl, q, b⟩
theorem text_lit (A : Option Addr) (c : Nat) (w : World) (h : Us w A c [0, 0, 1]) : Calls Tryd.prog 12 #[.agg #[.bool true, .slice A 3 c]] w fun e w' => e = .returned (.string ⟨#[45, 49, 56, 52, 52, 54, 55, 52, 52, 48, 55, 51, 55, 48, 57, 53, 53, 49, 54, 49, 54]⟩) ∧ Below w.heap.size w w' := by
  refine (text_any true A c [0, 0, 1] w h (by simp)).mono ?_
  rintro e w' ⟨rfl, b⟩
  exact ⟨by rw [lit_text], b⟩
theorem text_zero (w : World) : Calls Tryd.prog 12 #[.agg #[.bool false, .slice none 0 0]] w fun e w' => e = .returned (.string ⟨#[48]⟩) ∧ Below w.heap.size w w' :=
  text_any false none 0 [] w (Us.nil w) (by simp)
theorem digits_lit (w : World) : Calls Tryd.prog 15 #[.string ⟨#[97, 49, 50, 98]⟩, .int .i64 1] w (RetN 2 w) :=
  digits_any ⟨#[97, 49, 50, 98]⟩ 1 w (by unfold maxLen; decide) (by decide) (by decide)
theorem Sb.held1 {w W : World} {l : List (Option Addr × Nat × List Nat)} {g : Nat} {x y : Value} (s : Sb w W l [(g, x, y)]) : W.cell? ⟨g, 0, none⟩ = some x ∧ W.cell? ⟨g, 1, none⟩ = some y := by
  have h := s.box (g := g) (x := x) (y := y) (by simp)
  exact ⟨h.1, h.2.1⟩
set_option maxRecDepth 100000 in
set_option maxHeartbeats 6400000 in
theorem alive3_any (w : World) :
    Calls Tryd.prog 7 #[] w fun e w' => e = .returned (.bool true) ∧ Below w.heap.size w w' := by
  have s0 : Sb w w [] [] := ⟨St.start w, fun t ht => by cases ht⟩
  go_enter Tryd.func7, Tryd.ntmps7
  go_wp2_with (first
    | (have _t := s0; go_at_call 10; clear _t; go_loud (refine (parse_nought _).mono ?_; rintro e w1 ⟨⟨A1, c1, rfl⟩, b⟩; have s1 := (s0.step b).step ((Below.refl _ _).alloc (Nat.le_refl _) (.cells #[.bool false, .slice A1 0 c1] 24)); clear b s0))
    | (have _t := s1; go_at_call 10; clear _t; go_loud (refine (parse_seven _).mono ?_; rintro e w2 ⟨⟨A2, c2, rfl⟩, b⟩; have s2 := (s1.step b).step ((Below.refl _ _).alloc (Nat.le_refl _) (.cells #[.bool false, .slice A2 0 c2] 24)); clear b s1))
    | (have _t := s2; go_at_call 10; clear _t; go_loud (refine (parse_lit _).mono ?_; rintro e w3 ⟨A3, c3, rfl, q, b⟩; have s3 := ((s2.call b q).step ((Below.refl _ _).alloc (Nat.le_refl _) (.cells #[.bool true, .slice A3 3 c3] 24))); clear b s2 q)))
  have s4 : Sb w _ [(A3, c3, [0, 0, 1])] [(w3.heap.size, .bool true, .slice A3 3 c3)] := ⟨s3.1, fun t ht => by
    simp only [List.mem_singleton] at ht
    subst ht
    exact Box.new w3 _ _ _⟩
  have s5 := s4.drew
  clear s3 s4
  go_region_held3 (fun w' => w'.cell? ⟨w3.heap.size, 0, none⟩ = some (.bool true) ∧ w'.cell? ⟨w3.heap.size, 1, none⟩ = some (.slice A3 3 c3))
    (exact Sb.held1 (by assumption))
    (first
    | (have _t := s5; go_at_call 20; clear _t; go_loud (refine (rbpow_any 64 _).mono ?_; intro e w6 h; obtain ⟨A6, c6, rfl, q, b⟩ := RetI.is h false [0, 0, 1] ⟨by simp [Canon], by simp⟩ lit_dig (by decide); clear h; have s6 := s5.call b q; clear q b s5; dsimp only [List.length_cons, List.length_nil, Nat.reduceAdd]))
    | (have _t := s6; go_at_call 17; clear _t; go_loud (refine (rminus_any false _ _ [0, 0, 1] _ (s6.get (by simp)) (by simp)).mono ?_; intro e w7 h; obtain ⟨A7, c7, rfl, q, b⟩ := RetI.is h true [0, 0, 1] lit_canon lit_dig (by decide); clear h; have s7 := s6.call b q; clear q b s6; dsimp only [List.length_cons, List.length_nil, Nat.reduceAdd]))
    | (have _t := s7; go_at_call 14; clear _t; go_loud (refine (rbsame_any true true _ _ _ _ [0, 0, 1] [0, 0, 1] _ (s7.get (by simp)) (s7.get (by simp)) (by simp)).mono ?_; rintro e w8 ⟨rfl, b⟩; rw [show decide (true = true ∧ ([0, 0, 1] : List Nat) = [0, 0, 1]) = true from by decide]; have s8 := s7.step b; clear b s7))
    | (have _t := s8; go_at_call 12; clear _t; go_loud (refine (text_lit _ _ _ (s8.get (by simp))).mono ?_; rintro e w9 ⟨rfl, b⟩; have s9 := s8.step b; clear b s8))
    | (have _t := s9; go_at_call 12; clear _t; go_loud (refine (text_zero _).mono ?_; rintro e w10 ⟨rfl, b⟩; have s10 := s9.step b; clear b s9))
    | (have _t := s10; go_at_call 15; clear _t; go_loud (refine (digits_lit _).mono ?_; rintro e w11 ⟨rfl, b⟩; have s11 := s10.step b; clear b s10)))
  go_wp2
  go_ret
  exact ⟨rfl, s11.1.1⟩
end Go.Proofs.YteekijmhghokkaaDoor
