/-
  node: Right, Level, Same; the reference's Nodes.
-/
import Derived.Test.YtilhnnbmplnnpaaNdWalk

namespace Go.Proofs.Ytilhnnbmplnnpaa
set_option linter.unusedVariables false
set_option linter.unusedSimpArgs false
open Go.RowKit Nds
theorem walk_at (A : Option Addr) (c n : Nat) (l : List Nd) (w : World) (h : Ns w A c l) (hl : looseB l = true) (hn : l.length = n) (hn9 : n ≤ 1000000) (h0 : 0 < n) :
    Calls Try.prog 20 #[.slice A n c, .int .i64 (n : Int), .int .i64 0] w fun ed w' => ed = .returned (.int .i64 (resW (wk l 1329 n 0))) ∧ w = w' := by
  obtain ⟨p, rfl⟩ : ∃ p, n = p + 1 := ⟨n - 1, by omega⟩
  have hv := (fit_lv (loose_iff.1 hl p (by omega))).2
  have := walk_rec A c (p + 1) l w h hl hn hn9 1329 p 0 (by omega) hv (by omega)
  rw [show ((p + 1 : Nat) : Int) = (p : Int) + 1 by omega]
  exact this
def quadB (l : List Nd) : Bool := decide (l = []) || (looseB l && (distB l && (!hollowB l l.length && decide (wk l 1329 l.length 0 = some l.length))))
set_option maxRecDepth 100000 in
set_option maxHeartbeats 1600000 in
theorem nright_any (A : Option Addr) (c n : Nat) (l : List Nd) (w : World) (h : Ns w A c l) (hn : l.length = n) (hn9 : n ≤ 1000000) :
    Calls Try.prog 9 #[.agg #[.slice A n c]] w fun e w' => e = .returned (.bool (quadB l)) ∧ Below w.heap.size w w' := by
  have hcap := h.cap
  rw [hn] at hcap
  obtain ⟨R, hR⟩ : ∃ R, R = quadB l := ⟨_, rfl⟩
  rw [← hR]
  have HR := Lib.hid hR
  have HL := Lib.hid hn
  have HB := Lib.hid ((Below.refl w.heap.size w).alloc (Nat.le_refl _) (.cells #[.slice A n c] 27))
  have HN := Lib.hid (h.below HB.out)
  clear hR hn h
  by_cases h0 : n = 0
  · have hr : R = true := by
      rw [HR.out]
      unfold quadB
      rw [decide_eq_true (List.eq_nil_of_length_eq_zero (HL.out.trans h0))]
      rfl
    subst hr
    have t1 : ((n : Int) == 0) = true := by rw [h0]; rfl
    have H0 := Lib.hid h0
    clear h0
    go_enter Try.func9, Try.ntmps9
    go_wp2_with fail
    go_ret
    exact ⟨rfl, HB.out⟩
  · have t1 : ((n : Int) == 0) = false := beq_eq_false_iff_ne.2 (by omega)
    have hr : R = (looseB l && (distB l && (!hollowB l n && decide (wk l 1329 n 0 = some n)))) := by
      rw [HR.out]
      unfold quadB
      rw [decide_eq_false (fun e => h0 (by rw [← HL.out, e]; rfl)), Bool.false_or, HL.out]
    have HR2 := Lib.hid hr
    clear hr HR
    cases q1 : looseB l with
    | false =>
      have Q1 := Lib.hid q1
      have hr : R = false := by rw [HR2.out, q1]; rfl
      subst hr
      clear q1
      go_enter Try.func9, Try.ntmps9
      go_wp2_with (go_at_call 7; refine (loose_at _ _ _ l _ HN.out HL.out).mono ?_; rintro e w1 ⟨rfl, b1⟩; have B1 := Lib.hid b1; clear b1; rw [Q1.out])
      go_ret
      exact ⟨rfl, HB.out.trans (B1.out.mono HB.out.size)⟩
    | true =>
      have Q1 := Lib.hid q1
      rw [q1, Bool.true_and] at HR2
      clear q1
      cases q2 : distB l with
      | false =>
        have Q2 := Lib.hid q2
        have hr : R = false := by rw [HR2.out, q2]; rfl
        subst hr
        clear q2
        go_enter Try.func9, Try.ntmps9
        go_wp2_with (first
          | (go_at_call 7; refine (loose_at _ _ _ l _ HN.out HL.out).mono ?_; rintro e w1 ⟨rfl, b1⟩; have B1 := Lib.hid b1; have N1 := Lib.hid (HN.out.below b1); clear b1; rw [Q1.out])
          | (go_at_call 19; refine (distinct_at _ _ _ l _ N1.out HL.out).mono ?_; rintro e w2 ⟨rfl, b2⟩; have B2 := Lib.hid b2; clear b2; rw [Q2.out]))
        go_ret
        exact ⟨rfl, (HB.out.trans (B1.out.mono HB.out.size)).trans (B2.out.mono (HB.out.trans (B1.out.mono HB.out.size)).size)⟩
      | true =>
        have Q2 := Lib.hid q2
        rw [q2, Bool.true_and] at HR2
        clear q2
        cases q3 : hollowB l n with
        | true =>
          have Q3 := Lib.hid q3
          have hr : R = false := by rw [HR2.out, q3]; rfl
          subst hr
          clear q3
          go_enter Try.func9, Try.ntmps9
          go_wp2_with (first
            | (go_at_call 7; refine (loose_at _ _ _ l _ HN.out HL.out).mono ?_; rintro e w1 ⟨rfl, b1⟩; have B1 := Lib.hid b1; have N1 := Lib.hid (HN.out.below b1); clear b1; rw [Q1.out])
            | (go_at_call 19; refine (distinct_at _ _ _ l _ N1.out HL.out).mono ?_; rintro e w2 ⟨rfl, b2⟩; have B2 := Lib.hid b2; have N2 := Lib.hid (N1.out.below b2); clear b2; rw [Q2.out])
            | (go_at_call 15; refine (hollow_any _ _ _ l _ _ N2.out HL.out Q1.out (Nat.le_refl _)).mono ?_; rintro e w3 ⟨rfl, b3⟩; have B3 := Lib.hid b3; clear b3; rw [Q3.out]))
          go_ret
          have z1 := HB.out.trans (B1.out.mono HB.out.size)
          have z2 := z1.trans (B2.out.mono z1.size)
          exact ⟨rfl, z2.trans (B3.out.mono z2.size)⟩
        | false =>
          have Q3 := Lib.hid q3
          rw [q3] at HR2
          clear q3
          have hres : resW (wk l 1329 n 0) = (n : Int) ∧ R = true ∨ (resW (wk l 1329 n 0) == (n : Int)) = false ∧ R = false := by
            rw [HR2.out]
            cases hw : wk l 1329 n 0 with
            | none => exact .inr ⟨beq_eq_false_iff_ne.2 (by show (0 : Int) ≠ (n : Int); omega), rfl⟩
            | some v =>
              have := wk_eq hw
              subst this
              exact .inl ⟨rfl, by simp⟩
          have HW := Lib.hid hres
          obtain ⟨r, hrr⟩ : ∃ r, r = resW (wk l 1329 n 0) := ⟨_, rfl⟩
          have HRR := Lib.hid hrr
          rw [← hrr] at hres
          clear hrr
          have h0' : 0 < n := by omega
          rcases hres with ⟨hres, hR1⟩ | ⟨hres, hR1⟩
          · subst hR1
            have RR := Lib.hid hres
            clear hres
            go_enter Try.func9, Try.ntmps9
            go_wp2_with (first
              | (go_at_call 7; refine (loose_at _ _ _ l _ HN.out HL.out).mono ?_; rintro e w1 ⟨rfl, b1⟩; have B1 := Lib.hid b1; have N1 := Lib.hid (HN.out.below b1); clear b1; rw [Q1.out])
              | (go_at_call 19; refine (distinct_at _ _ _ l _ N1.out HL.out).mono ?_; rintro e w2 ⟨rfl, b2⟩; have B2 := Lib.hid b2; have N2 := Lib.hid (N1.out.below b2); clear b2; rw [Q2.out])
              | (go_at_call 15; refine (hollow_any _ _ _ l _ _ N2.out HL.out Q1.out (Nat.le_refl _)).mono ?_; rintro e w3 ⟨rfl, b3⟩; have B3 := Lib.hid b3; have N3 := Lib.hid (N2.out.below b3); clear b3; rw [Q3.out])
              | (go_at_call 20; refine (walk_at _ _ _ l _ N3.out Q1.out HL.out hn9 h0').mono ?_; rintro e w4 ⟨rfl, rfl⟩; rw [← HRR.out, RR.out]))
            go_ret
            have z1 := HB.out.trans (B1.out.mono HB.out.size)
            have z2 := z1.trans (B2.out.mono z1.size)
            exact ⟨nd_b (by simp), z2.trans (B3.out.mono z2.size)⟩
          · subst hR1
            go_enter Try.func9, Try.ntmps9
            go_wp2_with (first
              | (go_at_call 7; refine (loose_at _ _ _ l _ HN.out HL.out).mono ?_; rintro e w1 ⟨rfl, b1⟩; have B1 := Lib.hid b1; have N1 := Lib.hid (HN.out.below b1); clear b1; rw [Q1.out])
              | (go_at_call 19; refine (distinct_at _ _ _ l _ N1.out HL.out).mono ?_; rintro e w2 ⟨rfl, b2⟩; have B2 := Lib.hid b2; have N2 := Lib.hid (N1.out.below b2); clear b2; rw [Q2.out])
              | (go_at_call 15; refine (hollow_any _ _ _ l _ _ N2.out HL.out Q1.out (Nat.le_refl _)).mono ?_; rintro e w3 ⟨rfl, b3⟩; have B3 := Lib.hid b3; have N3 := Lib.hid (N2.out.below b3); clear b3; rw [Q3.out])
              | (go_at_call 20; refine (walk_at _ _ _ l _ N3.out Q1.out HL.out hn9 h0').mono ?_; rintro e w4 ⟨rfl, rfl⟩; rw [← HRR.out]))
            go_ret
            have z1 := HB.out.trans (B1.out.mono HB.out.size)
            have z2 := z1.trans (B2.out.mono z1.size)
            exact ⟨nd_b (by simp), z2.trans (B3.out.mono z2.size)⟩
end Go.Proofs.Ytilhnnbmplnnpaa
