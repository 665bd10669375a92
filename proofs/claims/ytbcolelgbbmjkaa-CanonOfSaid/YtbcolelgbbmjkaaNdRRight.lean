/-
  node: the reference's Right.
-/
import Derived.Test.YtbcolelgbbmjkaaNdEnd

namespace Go.Proofs.Ytbcolelgbbmjkaa
set_option linter.unusedVariables false
set_option linter.unusedSimpArgs false
open Go.RowKit Nds
theorem quad_iff {l : List Nd} (hne : l ≠ []) (hl : looseB l = true) : quadB l = true ↔ (hollowB l l.length = false ∧ (∀ i, i < l.length → empB l (i + 1) = false ∧ at_ l i ∉ l.take i) ∧ endL l 1329 l.length [] = upto l.length) := by
  have hpos : 0 < l.length := List.length_pos_iff.2 hne
  have hv := (fit_lv (loose_iff.1 hl (l.length - 1) (by omega))).2
  have hw := wk_end hl 1329 l.length 0 hpos (Nat.le_refl _) hv hpos
  have h0 : upto 0 = [] := rfl
  rw [h0] at hw
  unfold quadB
  rw [decide_eq_false hne, hl]
  simp only [Bool.false_or, Bool.true_and, Bool.and_eq_true, Bool.not_eq_true', decide_eq_true_iff]
  constructor
  · rintro ⟨hd, hh, hwk⟩
    have hd' := dist_iff.1 hd
    refine ⟨hh, fun i hi => ⟨?_, (hd' i hi).2⟩, ?_⟩
    · rw [emp_at hl hi]
      exact no_empty hl (fun j hj => (hd' j hj).1) i hi
    · rcases hw with ⟨_, h2⟩ | ⟨h1, _⟩
      · exact h2
      · rw [h1] at hwk
        cases hwk
  · rintro ⟨hh, hd, he⟩
    refine ⟨dist_iff.2 fun i hi => ⟨?_, (hd i hi).2⟩, hh, ?_⟩
    · cases hz : (at_ l i).each (· == 0)
      · rfl
      · have h1 := (hd i hi).1
        rw [emp_at hl hi, emp_zero hz] at h1
        cases h1
    · rcases hw with ⟨h1, _⟩ | ⟨_, h2⟩
      · exact h1
      · exact absurd (by rw [he]; exact List.prefix_rfl) (h2 l.length)
theorem quad_false {l : List Nd} (hne : l ≠ []) (hl : looseB l = true) (h : ¬ (hollowB l l.length = false ∧ (∀ i, i < l.length → empB l (i + 1) = false ∧ at_ l i ∉ l.take i) ∧ endL l 1329 l.length [] = upto l.length)) : quadB l = false := by
  cases hq : quadB l
  · rfl
  · exact absurd ((quad_iff hne hl).1 hq) h
theorem at_not_take {l : List Nd} {k : Nat} (hk : k < l.length) (h : ∀ j, j < k → at_ l k ≠ at_ l j) : at_ l k ∉ l.take k := by
  intro hm
  obtain ⟨j, hj⟩ := List.mem_iff_getElem?.1 hm
  have hjl := (List.getElem?_eq_some_iff.1 hj).1
  rw [List.length_take] at hjl
  refine h j (by omega) ?_
  rw [← at_take (l := l) (k := k) (i := j) (by omega)]
  conv => rhs; unfold at_
  rw [hj]
  rfl
theorem end_at (A : Option Addr) (c n base : Nat) (l : List Nd) (w : World) (h : Ns w A c l) (hl : looseB l = true) (hn : l.length = n) (hn9 : n ≤ 1000000) (h0 : 0 < n) (hA : ∀ a, A = some a → a.block < base) (hb : base ≤ w.heap.size) :
    Calls Try.prog 21 #[.slice A n c, .int .i64 (n : Int), .slice none 0 0] w (RetL (endL l 1329 n []) base w) := by
  obtain ⟨p, rfl⟩ : ∃ p, n = p + 1 := ⟨n - 1, by omega⟩
  have hv := (fit_lv (loose_iff.1 hl p (by omega))).2
  have := end_rec A c (p + 1) base l hl hn hn9 hA 1329 p [] (.slice none 0 0) w (by omega) hv List.nodup_nil (by simp) h (OwnI.nil w base) hb
  rw [show ((p + 1 : Nat) : Int) = (p : Int) + 1 by omega]
  exact this
set_option maxRecDepth 100000 in
set_option maxHeartbeats 3200000 in
theorem rright_any (A : Option Addr) (c n : Nat) (l : List Nd) (w : World) (h : Ns w A c l) (hn : l.length = n) (hn9 : n ≤ 1000000) :
    Calls Try.prog 10 #[.agg #[.slice A n c]] w fun e w' => e = .returned (.bool (quadB l)) ∧ Below w.heap.size w w' := by
  have hcap := h.cap
  rw [hn] at hcap
  obtain ⟨R, hR⟩ : ∃ R, R = quadB l := ⟨_, rfl⟩
  rw [← hR]
  have HR := Lib.hid hR
  have HL := Lib.hid hn
  have HB := Lib.hid ((Below.refl w.heap.size w).alloc (Nat.le_refl _) (.cells #[.slice A n c] 25))
  have HN0 := Lib.hid h
  have HN := Lib.hid (h.below HB.out)
  clear hR hn h
  by_cases h0 : n = 0
  · have hr : R = true := by
      rw [HR.out]
      unfold quadB
      rw [decide_eq_true (List.eq_nil_of_length_eq_zero (HL.out.trans h0))]
      rfl
    subst hr
    have t1 : ((n : Int) == 0) = true := by rw [h0]; rfl
    have H0 := Lib.hid h0
    clear h0
    go_enter Try.func10, Try.ntmps10
    go_wp2_with fail
    go_ret
    exact ⟨rfl, HB.out⟩
  · have t1 : ((n : Int) == 0) = false := beq_eq_false_iff_ne.2 (by omega)
    have hne : l ≠ [] := fun e => h0 (by rw [← HL.out, e]; rfl)
    have HNE := Lib.hid hne
    have h0' : 0 < n := by omega
    clear hne h0
    cases q1 : looseB l with
    | false =>
      have Q1 := Lib.hid q1
      have hr : R = false := by
        rw [HR.out]
        unfold quadB
        rw [decide_eq_false HNE.out, q1]
        rfl
      subst hr
      clear q1
      go_enter Try.func10, Try.ntmps10
      go_wp2_with (go_at_call 11; refine (rloose_at _ _ _ l _ HN.out HL.out).mono ?_; rintro e w1 ⟨rfl, m1, rfl⟩; rw [Q1.out])
      go_ret
      exact ⟨rfl, below_drewN' HB.out _⟩
    | true =>
      have Q1 := Lib.hid q1
      clear q1
      cases q3 : hollowB l n with
      | true =>
        have Q3 := Lib.hid q3
        have hr : R = false := by
          rw [HR.out]
          refine quad_false HNE.out Q1.out (fun h => ?_)
          have := h.1
          rw [HL.out, Q3.out] at this
          cases this
        subst hr
        clear q3
        go_enter Try.func10, Try.ntmps10
        go_wp2_with (first
          | (go_at_call 11; refine (rloose_at _ _ _ l _ HN.out HL.out).mono ?_; rintro e w1 ⟨rfl, m1, rfl⟩; rw [Q1.out])
          | (go_at_call 20; refine (rhollow_any _ _ _ l _ _ (Ns.drewN HN.out _) HL.out Q1.out hn9 (Nat.le_refl _)).mono ?_; rintro e w2 ⟨rfl, b2⟩; have B2 := Lib.hid b2; clear b2; rw [Q3.out]))
        go_ret
        have z1 := below_drewN' HB.out m1
        exact ⟨rfl, z1.trans (B2.out.mono z1.size)⟩
      | false =>
        have Q3 := Lib.hid q3
        clear q3
        go_enter Try.func10, Try.ntmps10
        go_wp2_with (first
          | (go_at_call 11; refine (rloose_at _ _ _ l _ HN.out HL.out).mono ?_; rintro e w1 ⟨rfl, m1, rfl⟩; rw [Q1.out])
          | (go_at_call 20; refine (rhollow_any _ _ _ l _ _ (Ns.drewN HN.out _) HL.out Q1.out hn9 (Nat.le_refl _)).mono ?_; rintro e w2 ⟨rfl, b2⟩; have B2 := Lib.hid b2; have N2 := Lib.hid ((Ns.drewN HN.out m1).below b2); clear b2; rw [Q3.out])
          | (go_at_call 19; refine (empties_any _ _ _ l _ N2.out HL.out Q1.out hn9).mono ?_; rintro e w3 ⟨g, rfl, hg1, hg2, hg3, hb3⟩; have HE := Lib.hid hg3; have B3 := Lib.hid hb3; have N3 := Lib.hid (N2.out.below hb3); clear hg3 hb3))
        have z1 := below_drewN' HB.out m1
        have z2 := z1.trans (B2.out.mono z1.size)
        have hb3 := z2.trans (B3.out.mono z2.size)
        have HB3 := Lib.hid hb3
        clear z1 z2 hb3
        have HNb := Lib.hid (show ∀ a, A = some a → a.block < w.heap.size from fun a e => by
          obtain ⟨b, off, e2, hb, _⟩ := HN0.out.at_ (by rw [HL.out]; omega)
          rw [e2] at e
          cases e
          exact hb)
        go_loopw [5, 6] (fun i z wr => ∃ (k nd : Nat) (v : Value), wr = w3.drewN nd ∧ k ≤ n ∧ i = .int .i64 k ∧ z = v ∧ ∀ j, j < k → empB l (j + 1) = false ∧ at_ l j ∉ l.take j) (fun i _ _ => n - (intOf i).toNat)
        case atStart => exact ⟨0, 0, _, rfl, by omega, rfl, rfl, fun j hj => by omega⟩
        case round =>
          obtain ⟨k, nd, v, rfl, hk, rfl, rfl, hall⟩ := hrel
          have HA := Lib.hid hall
          clear hall
          by_cases hlt : k < n
          · have hkl : k < l.length := by rw [HL.out]; exact hlt
            obtain ⟨b, off, hAe, hb, hc⟩ := N3.out.at_ (by omega)
            subst hAe
            obtain ⟨c1, c2, c3, c4, c5⟩ := hc k hkl
            have HC := Lib.hid hc
            have hec := HE.out (k + 1) (by omega)
            have hwx := N3.out.wf hkl
            have HKL := Lib.hid hkl
            have i1 : (k : Int) < (n : Int) := by omega
            have i2 : (k : Int) + 1 < (n : Int) + 1 := by omega
            have i0 : (0 : Int) ≤ (k : Int) := by omega
            clear hc hkl
            obtain ⟨x, hx⟩ : ∃ x, x = at_ l k := ⟨_, rfl⟩
            rw [← hx] at c1 c2 c3 c4 c5 hwx
            have HX := Lib.hid hx
            have HWX := Lib.hid hwx
            clear hx hwx
            cases hz : empB l (k + 1) with
            | true =>
              have HZ := Lib.hid hz
              rw [hz] at hec
              clear hz
              go_wp2_with fail
              go_ret
              refine ⟨nd_b ?_, below_drewN' HB3.out _⟩
              rw [HR.out]
              refine (quad_false HNE.out Q1.out (fun h => ?_)).symm
              have := (h.2.1 k HKL.out).1
              rw [HZ.out] at this
              cases this
            | false =>
              have HZ := Lib.hid hz
              rw [hz] at hec
              clear hz
              go_wp2_with fail
              obtain ⟨wo, hwo⟩ : ∃ wo : World, wo = w3.drewN nd := ⟨_, rfl⟩
              have c1' : wo.cell? ⟨b, off + k * 5, none⟩ = some (.int .i64 x.lv) := by rw [hwo]; exact c1
              have c2' : wo.cell? ⟨b, off + k * 5 + 1, none⟩ = some (.int .i64 x.a) := by rw [hwo]; exact c2
              have c3' : wo.cell? ⟨b, off + k * 5 + 2, none⟩ = some (.int .i64 x.b) := by rw [hwo]; exact c3
              have c4' : wo.cell? ⟨b, off + k * 5 + 3, none⟩ = some (.int .i64 x.c) := by rw [hwo]; exact c4
              have c5' : wo.cell? ⟨b, off + k * 5 + 4, none⟩ = some (.int .i64 x.d) := by rw [hwo]; exact c5
              have HC2 := Lib.hid (show ∀ i, i < l.length → NdAt wo b (off + i * 5) (at_ l i) from fun i hi => by rw [hwo]; exact HC.out i hi)
              have HW := Lib.hid hwo
              rw [← hwo]
              clear hwo c1 c2 c3 c4 c5 hec
              go_loopw [6] (fun i wr => ∃ (q m : Nat), wr = wo.drewN m ∧ q ≤ k ∧ i = .int .i64 q ∧ ∀ j, j < q → at_ l k ≠ at_ l j) (fun i _ => k - (intOf i).toNat)
              case atStart => exact ⟨0, 0, rfl, by omega, rfl, fun j hj => by omega⟩
              case round =>
                obtain ⟨q, m, rfl, hq, rfl, hdis⟩ := hrel
                have HD := Lib.hid hdis
                clear hdis
                by_cases hqk : q < k
                · obtain ⟨d1, d2, d3, d4, d5⟩ := HC2.out q (by have := HKL.out; omega)
                  have hwy := N3.out.wf (i := q) (by have := HKL.out; omega)
                  obtain ⟨y, hy⟩ : ∃ y, y = at_ l q := ⟨_, rfl⟩
                  rw [← hy] at d1 d2 d3 d4 d5 hwy
                  have HY := Lib.hid hy
                  have hq2 := eql_node x y HWX.out hwy
                  have j1 : (q : Int) < (k : Int) := by omega
                  have j0 : (0 : Int) ≤ (q : Int) := by omega
                  have j2 : (q : Int) < (n : Int) := by omega
                  clear hy hwy
                  by_cases hxy : x = y
                  · have HXY := Lib.hid hxy
                    rw [decide_eq_true hxy] at hq2
                    clear hxy
                    go_wp2_with fail
                    go_quiet (fail)
                    go_wp2_with fail
                    go_ret
                    refine ⟨nd_b ?_, ?_⟩
                    · rw [HR.out]
                      refine (quad_false HNE.out Q1.out (fun h => ?_)).symm
                      refine (h.2.1 k HKL.out).2 ?_
                      rw [← HX.out, HXY.out, HY.out, ← at_take (l := l) (k := k) (i := q) hqk]
                      exact at_mem (by rw [List.length_take]; have := HKL.out; omega)
                    · rw [HW.out]
                      exact below_drewN' (below_drewN' (below_drewN' HB3.out _) _) _
                  · have HXY := Lib.hid hxy
                    rw [decide_eq_false hxy] at hq2
                    clear hxy
                    go_wp2_with fail
                    go_quiet (fail)
                    go_wp2_with fail
                    go_roundw
                    case rel =>
                      refine ⟨q + 1, _, rfl, by omega, by go_num, fun j hj => ?_⟩
                      rcases Nat.lt_or_ge j q with h4 | h4
                      · exact HD.out j h4
                      · rw [show j = q by omega, ← HX.out, ← HY.out]; exact HXY.out
                    case measure => simp [intOf]; omega
                · go_wp2_with fail
                  go_roundw
                  case rel =>
                    refine ⟨k + 1, _, _, by rw [HW.out, World.drewN_drewN], by omega, by go_num, rfl, fun j hj => ?_⟩
                    rcases Nat.lt_or_ge j k with h4 | h4
                    · exact HA.out j h4
                    · rw [show j = k by omega]
                      exact ⟨HZ.out, at_not_take HKL.out fun j hj => HD.out j (by omega)⟩
                  case measure => simp [intOf]; omega
          · have hkn : k = n := by omega
            have HKN := Lib.hid hkn
            clear hkn
            have hbr : w.heap.size ≤ (w3.drewN nd).heap.size := HB3.out.size
            obtain ⟨O, hO⟩ : ∃ O, O = endL l 1329 n [] := ⟨_, rfl⟩
            have HO := Lib.hid hO
            have hol : O.length ≤ n := by
              rw [hO, ← HL.out]
              exact end_len Q1.out (by rw [HL.out]; exact h0') (Nat.le_refl _) List.nodup_nil (by simp)
            clear hO
            go_wp2_with (go_at_call 21; refine (end_at _ _ _ w.heap.size l _ (Ns.drewN N3.out _) Q1.out HL.out hn9 h0' HNb.out hbr).mono ?_; rintro e w4 ⟨v4, rfl, ho4, hb4⟩; rw [← HO.out] at ho4; obtain ⟨A4, c4, rfl, hcc, hcd, hrd⟩ := ho4.shape; have HRD := Lib.hid hrd; have HB4 := Lib.hid hb4; clear hrd hb4 ho4)
            obtain ⟨ol, hol2⟩ : ∃ ol, ol = O.length := ⟨_, rfl⟩
            rw [← hol2] at hol hcc ⊢
            have HOL := Lib.hid hol2
            clear hol2
            have HFIN := Lib.hid (show Below w.heap.size w w4 from (below_drewN' HB3.out nd).trans HB4.out)
            go_loop [8] (fun i => ∃ (q : Nat), q ≤ ol ∧ i = .int .i64 q ∧ ∀ j, j < q → O.getD j 0 = j + 1) (fun i => ol - (intOf i).toNat)
            case atStart => exact ⟨0, by omega, rfl, fun j hj => by omega⟩
            case round =>
              obtain ⟨q, hq, rfl, heq⟩ := hrel
              have HEQ := Lib.hid heq
              clear heq
              by_cases hqo : q < ol
              · obtain ⟨g4, rfl, hcs⟩ := HRD.out (by rw [← HOL.out]; omega)
                have ce := hcs q (by rw [← HOL.out]; exact hqo)
                clear hcs
                obtain ⟨u, hu⟩ : ∃ u : Nat, u = O.getD q 0 := ⟨_, rfl⟩
                rw [← hu] at ce
                have HU := Lib.hid hu
                have j1 : (q : Int) < (ol : Int) := by omega
                clear hu
                by_cases huq : u = q + 1
                · have t2 : ((u : Int) != (q : Int) + 1) = false := by rw [huq]; simp
                  have HUQ := Lib.hid huq
                  clear huq
                  go_wp2_with fail
                  go_round
                  case rel =>
                    refine ⟨q + 1, by omega, by go_num, fun j hj => ?_⟩
                    rcases Nat.lt_or_ge j q with h4 | h4
                    · exact HEQ.out j h4
                    · rw [show j = q by omega, ← HU.out]; exact HUQ.out
                  case measure => simp [intOf]; omega
                · have t2 : ((u : Int) != (q : Int) + 1) = true := by rw [bne_iff_ne]; omega
                  have HUQ := Lib.hid huq
                  clear huq
                  go_wp2_with fail
                  go_ret
                  refine ⟨nd_b ?_, HFIN.out⟩
                  rw [HR.out]
                  refine (quad_false HNE.out Q1.out (fun h => ?_)).symm
                  have h2 := h.2.2
                  rw [HL.out, ← HO.out] at h2
                  have h3 := HU.out
                  rw [h2, List.getD_eq_getElem?_getD, upto_at (by have := HOL.out; rw [h2, upto_len] at this; omega)] at h3
                  exact HUQ.out (by rw [h3]; show 1 + q = q + 1; omega)
              · have hqo2 : q = ol := by omega
                have HQO := Lib.hid hqo2
                clear hqo2
                by_cases hon : ol = n
                · have t2 : ((ol : Int) == (n : Int)) = true := by rw [hon]; simp
                  have HON := Lib.hid hon
                  clear hon
                  go_wp2_with fail
                  go_ret
                  refine ⟨nd_b ?_, HFIN.out⟩
                  rw [HR.out]
                  refine ((quad_iff HNE.out Q1.out).2 ⟨by rw [HL.out]; exact Q3.out, fun i hi => HA.out i (by rw [HKN.out, ← HL.out]; exact hi), ?_⟩).symm
                  rw [HL.out, ← HO.out]
                  refine List.ext_getElem (by rw [upto_len, ← HOL.out, HON.out]) fun i h1 h2 => ?_
                  have h3 := HEQ.out i (by rw [HQO.out, HOL.out]; exact h1)
                  rw [List.getD_eq_getElem?_getD, List.getElem?_eq_getElem h1] at h3
                  have h4 := upto_at (e := n) (i := i) (by rw [upto_len] at h2; exact h2)
                  rw [List.getElem?_eq_getElem h2] at h4
                  rw [Option.some.inj h4]
                  show O[i] = 1 + i
                  have h5 : O[i] = i + 1 := h3
                  omega
                · have t2 : ((ol : Int) == (n : Int)) = false := beq_eq_false_iff_ne.2 (by omega)
                  have HON := Lib.hid hon
                  clear hon
                  go_wp2_with fail
                  go_ret
                  refine ⟨nd_b ?_, HFIN.out⟩
                  rw [HR.out]
                  refine (quad_false HNE.out Q1.out (fun h => ?_)).symm
                  have h2 := h.2.2
                  rw [HL.out, ← HO.out] at h2
                  exact HON.out (by rw [HOL.out, h2, upto_len])
end Go.Proofs.Ytbcolelgbbmjkaa
