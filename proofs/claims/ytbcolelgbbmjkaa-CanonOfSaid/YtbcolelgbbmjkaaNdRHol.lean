/-
  node: the reference's Empty, Hollow.
-/
import Derived.Test.YtbcolelgbbmjkaaNdREmp
import Derived.Test.YtbcolelgbbmjkaaNdHollow

namespace Go.Proofs.Ytbcolelgbbmjkaa
set_option linter.unusedVariables false
set_option linter.unusedSimpArgs false
open Go.RowKit Nds
set_option maxRecDepth 100000 in
set_option maxHeartbeats 1600000 in
theorem rempty_any (A : Option Addr) (c n : Nat) (l : List Nd) (k : Nat) (w : World) (h : Ns w A c l) (hn : l.length = n) (hl : looseB l = true) (hn9 : n ≤ 1000000) (hk : k ≤ n) :
    Calls Try.prog 29 #[.slice A n c, .int .i64 (k : Int)] w fun e w' => e = .returned (.bool (empB l k)) ∧ Below w.heap.size w w' := by
  have HN := Lib.hid h
  have HL := Lib.hid hn
  have HLL := Lib.hid hl
  have i1 : (k : Int) < (n : Int) + 1 := by omega
  clear h hn hl
  go_enter Try.func29, Try.ntmps29
  go_wp2_with (go_at_call 19; refine (empties_any _ _ n l _ HN.out HL.out HLL.out hn9).mono ?_; rintro e w1 ⟨g, rfl, hg1, hg2, hg3, hb⟩; have hc := hg3 k hk; clear hg3; have HB := Lib.hid hb; clear hb)
  go_ret
  exact ⟨rfl, HB.out⟩
theorem rim_at {x : Nd} {k q : Nat} (hk : k < 4) (hq : q < 4) : (rim x k).kid q = if q + k = 3 then 0 else x.kid q := by
  match k, q, hk, hq with
  | 0, 0, _, _ => rfl
  | 0, 1, _, _ => rfl
  | 0, 2, _, _ => rfl
  | 0, 3, _, _ => rfl
  | 1, 0, _, _ => rfl
  | 1, 1, _, _ => rfl
  | 1, 2, _, _ => rfl
  | 1, 3, _, _ => rfl
  | 2, 0, _, _ => rfl
  | 2, 1, _, _ => rfl
  | 2, 2, _, _ => rfl
  | 2, 3, _, _ => rfl
  | 3, 0, _, _ => rfl
  | 3, 1, _, _ => rfl
  | 3, 2, _, _ => rfl
  | 3, 3, _, _ => rfl
theorem rim_emp_no {l : List Nd} {z : Nd} {k q : Nat} (hk : k < 4) (hq : q < 4) (h : kidE (emps l) z.lv ((rim z k).kid q) = false) : nodeEmp l (rim z k) = false := by
  unfold nodeEmp nodeE
  exact each_no hq (by rw [rim_lv]; exact h)
theorem rim_emp_yes {l : List Nd} {z : Nd} {k : Nat} (h : ∀ q, q < 4 → kidE (emps l) z.lv ((rim z k).kid q) = true) : nodeEmp l (rim z k) = true := by
  unfold nodeEmp nodeE
  exact each_iff.2 fun q hq => by rw [rim_lv]; exact h q hq
set_option maxRecDepth 100000 in
set_option maxHeartbeats 3200000 in
theorem rhollow_any (A : Option Addr) (c n : Nat) (l : List Nd) (k : Nat) (w : World) (h : Ns w A c l) (hn : l.length = n) (hl : looseB l = true) (hn9 : n ≤ 1000000) (hk : k ≤ n) :
    Calls Try.prog 20 #[.slice A n c, .int .i64 (k : Int)] w fun e w' => e = .returned (.bool (hollowB l k)) ∧ Below w.heap.size w w' := by
  have hcap := h.cap
  rw [hn] at hcap
  have HN := Lib.hid h
  have HL := Lib.hid hn
  clear h hn
  rcases (show k = 0 ∨ ∃ m, k = m + 1 by cases k with | zero => exact .inl rfl | succ m => exact .inr ⟨m, rfl⟩) with rfl | ⟨m, rfl⟩
  · rw [show hollowB l 0 = false by unfold hollowB; rw [decide_eq_false (by omega)]; rfl]
    go_enter Try.func20, Try.ntmps20
    go_wp2_with fail
    go_ret
    exact ⟨rfl, Below.refl _ _⟩
  · have hml : m < l.length := by rw [HL.out]; omega
    obtain ⟨R, hR⟩ : ∃ R, R = hollowB l (m + 1) := ⟨_, rfl⟩
    rw [← hR]
    have HR := Lib.hid hR
    clear hR
    obtain ⟨b, off, rfl, hb, hc⟩ := HN.out.at_ (by omega)
    have hck := hc m hml
    obtain ⟨c1, -, -, -, -⟩ := id hck
    have HCK := Lib.hid hck
    have hfx := Lib.hid (loose_iff.1 hl m hml)
    have HC := Lib.hid hc
    have HLL := Lib.hid hl
    have HML := Lib.hid hml
    have i1 : (m : Int) < (n : Int) := by omega
    clear hc hl hml hck
    obtain ⟨x, hx⟩ : ∃ x, x = at_ l m := ⟨_, rfl⟩
    rw [← hx] at c1 hfx HCK
    have HX := Lib.hid hx
    have hxv := fit_lv hfx.out
    have t1 : (((m + 1 : Nat) : Int) == 0) = false := beq_eq_false_iff_ne.2 (by omega)
    have e1 : (((m + 1 : Nat) : Int)) = (m : Int) + 1 := by omega
    rw [e1] at t1 ⊢
    clear hx e1
    by_cases h2 : x.lv < 2
    · have hr : R = false := by
        rw [HR.out]
        unfold hollowB
        rw [decide_eq_false (by rw [show m + 1 - 1 = m by omega, ← HX.out]; omega)]
        rfl
      subst hr
      go_enter Try.func20, Try.ntmps20
      go_wp2_with fail
      go_ret
      exact ⟨rfl, Below.refl _ _⟩
    · have hr : R = (List.range 4).all fun i => decide (x.kid i = 0) || nodeEmp l (rim (at_ l ((x.kid i).toNat - 1)) i) := by
        rw [HR.out]
        unfold hollowB
        rw [show m + 1 - 1 = m by omega, ← HX.out, decide_eq_true (by omega)]
        rfl
      have HR2 := Lib.hid hr
      clear hr HR
      go_enter Try.func20, Try.ntmps20
      go_wp2_with (go_at_call 19; refine (empties_any _ _ n l _ HN.out HL.out HLL.out hn9).mono ?_; rintro e w1 ⟨g, rfl, hg1, hg2, hg3, hbw⟩; have HE := Lib.hid hg3; clear hg3; have HB := Lib.hid hbw; clear hbw)
      have c1' := (HB.out.cell (p := ⟨b, off + m * 5, none⟩) hb).trans c1
      have HCK1 := Lib.hid (HCK.out.below (HB.out.block b hb))
      have HC1 := Lib.hid (show ∀ i, i < l.length → NdAt w1 b (off + i * 5) (at_ l i) from fun i hi => (HC.out i hi).below (HB.out.block b hb))
      clear c1
      go_loop [6, 7, 8, 9] (fun i z1 z2 z3 => ∃ (k : Nat) (v1 v2 v3 : Value), k ≤ 4 ∧ i = .int .i64 k ∧ z1 = v1 ∧ z2 = v2 ∧ z3 = v3 ∧ (∀ j, j < k → (decide (x.kid j = 0) || nodeEmp l (rim (at_ l ((x.kid j).toNat - 1)) j)) = true)) (fun i _ _ _ => 4 - (intOf i).toNat)
      case atStart => exact ⟨0, _, _, _, by omega, rfl, rfl, rfl, rfl, fun j hj => by omega⟩
      case round =>
        obtain ⟨k, v1, v2, v3, hk4, rfl, rfl, rfl, rfl, hall⟩ := hrel
        have HA := Lib.hid hall
        clear hall
        by_cases hlt : k < 4
        · have hy := HCK1.out.kid hlt
          have hfk := kid_mono (fit_kid hfx.out hlt)
          obtain ⟨y, hye⟩ : ∃ y, y = x.kid k := ⟨_, rfl⟩
          rw [← hye] at hy hfk
          have HY := Lib.hid hye
          have i2 : (k : Int) < 4 := by omega
          have i0 : (0 : Int) ≤ (k : Int) := by omega
          clear hye
          rcases kid_up (by omega) hfk with rfl | ⟨p, rfl, hp, hpl⟩
          · clear hfk
            go_wp2_with fail
            refine wp_loop_rounds 1 ?_
            rw [rounds_succ]
            go_wp2_with fail
            go_round
            case rel =>
              refine ⟨k + 1, _, _, _, by omega, by go_num, rfl, rfl, rfl, fun j hj => ?_⟩
              rcases Nat.lt_or_ge j k with h3 | h3
              · exact HA.out j h3
              · rw [show j = k by omega, ← HY.out]; rfl
            case measure => simp [intOf]; omega
          · have hpn : p < n := by rw [← HL.out]; exact hp
            have HCP := Lib.hid (HC1.out p hp)
            have hfz := Lib.hid (loose_fit HLL.out hp)
            clear hfk
            obtain ⟨z, hz⟩ : ∃ z, z = at_ l p := ⟨_, rfl⟩
            rw [← hz] at hfz HCP hpl
            have HZ := Lib.hid hz
            have hzv := fit_lv hfz.out
            have i3 : (p : Int) < (n : Int) := by omega
            have i4 : (0 : Int) < (p : Int) + 1 := by omega
            have e5 : rim (at_ l ((x.kid k).toNat - 1)) k = rim z k := by rw [← HY.out, show ((p : Int) + 1).toNat - 1 = p by omega, HZ.out]
            have E5 := Lib.hid e5
            clear hz e5
            go_wp2_with fail
            go_loop [8, 9] (fun i z3 => ∃ (q : Nat) (v3 : Value), q ≤ 4 ∧ i = .int .i64 q ∧ z3 = v3 ∧ (∀ j, j < q → kidE (emps l) z.lv ((rim z k).kid j) = true)) (fun i _ => 4 - (intOf i).toNat)
            case atStart => exact ⟨0, _, by omega, rfl, rfl, fun j hj => by omega⟩
            case round =>
              obtain ⟨q, v3, hq4, rfl, rfl, hkq⟩ := hrel
              have HQ := Lib.hid hkq
              clear hkq
              by_cases hqlt : q < 4
              · have hgc := HCP.out.kid hqlt
                have hfg := fit_kid hfz.out hqlt
                have hrk := rim_at (x := z) hlt hqlt
                obtain ⟨u, hu⟩ : ∃ u, u = z.kid q := ⟨_, rfl⟩
                rw [← hu] at hgc hfg hrk
                have HRK := Lib.hid hrk
                have j0 : (0 : Int) ≤ (q : Int) := by omega
                have j1 : (q : Int) < 4 := by omega
                clear hu hrk
                by_cases h3 : q + k = 3
                · have t2 : ((q : Int) != 3 - (k : Int)) = false := by rw [show (q : Int) = 3 - (k : Int) by omega]; simp
                  have HV := Lib.hid (show kidE (emps l) z.lv ((rim z k).kid q) = true by rw [HRK.out, if_pos h3]; rfl)
                  clear hfg h3
                  go_wp2_with fail
                  go_round
                  case rel =>
                    refine ⟨q + 1, _, by omega, by go_num, rfl, fun j hj => ?_⟩
                    rcases Nat.lt_or_ge j q with h4 | h4
                    · exact HQ.out j h4
                    · rw [show j = q by omega]; exact HV.out
                  case measure => simp [intOf]; omega
                · have t2 : ((q : Int) != 3 - (k : Int)) = true := by rw [bne_iff_ne]; omega
                  by_cases hx2 : x.lv = 2
                  · have t3 : (x.lv == 2) = true := by rw [beq_iff_eq]; exact hx2
                    have t4 : decide (2 < x.lv) = false := decide_eq_false (by omega)
                    by_cases hu0 : u = 0
                    · subst hu0
                      have HV := Lib.hid (show kidE (emps l) z.lv ((rim z k).kid q) = true by rw [HRK.out, if_neg h3]; rfl)
                      clear hfg h3 hx2
                      go_wp2_with fail
                      go_round
                      case rel =>
                        refine ⟨q + 1, _, by omega, by go_num, rfl, fun j hj => ?_⟩
                        rcases Nat.lt_or_ge j q with h4 | h4
                        · exact HQ.out j h4
                        · rw [show j = q by omega]; exact HV.out
                      case measure => simp [intOf]; omega
                    · have t5 : (u != 0) = true := by rw [bne_iff_ne]; exact hu0
                      have HV := Lib.hid (show kidE (emps l) z.lv ((rim z k).kid q) = false by rw [HRK.out, if_neg h3]; unfold kidE; rw [beq_eq_false_iff_ne.2 hu0, decide_eq_false (by omega)]; rfl)
                      clear hfg h3 hx2 hu0
                      go_wp2_with fail
                      go_ret
                      refine ⟨nd_b ?_, HB.out⟩
                      rw [HR2.out]
                      refine all4_no (k := k) hlt ?_
                      rw [E5.out, rim_emp_no hlt hqlt HV.out, Bool.or_false]
                      exact decide_eq_false (by rw [← HY.out]; omega)
                  · have t3 : (x.lv == 2) = false := beq_eq_false_iff_ne.2 hx2
                    have t4 : decide (2 < x.lv) = true := decide_eq_true (by omega)
                    have hv1 : 1 < z.lv := by omega
                    have hup : ∃ r : Nat, u = (r : Int) ∧ r ≤ n := by
                      rcases kid_up (by omega) hfg with e | ⟨r, e, hr, _⟩
                      · exact ⟨0, by rw [e]; rfl, by omega⟩
                      · exact ⟨r + 1, by rw [e]; omega, by rw [HL.out] at hr; omega⟩
                    obtain ⟨r, rfl, hrn⟩ := hup
                    have hec := HE.out r hrn
                    have j2 : (r : Int) < (n : Int) + 1 := by omega
                    have HV := Lib.hid (show kidE (emps l) z.lv ((rim z k).kid q) = empB l r by
                      rw [HRK.out, if_neg h3]
                      unfold kidE
                      rw [decide_eq_true hv1, Bool.true_and, Int.toNat_natCast]
                      by_cases hr0 : r = 0
                      · rw [hr0, empB_zero]; rfl
                      · rw [beq_eq_false_iff_ne.2 (by omega), Bool.false_or]; rfl)
                    clear hfg h3 hx2
                    cases hz : empB l r with
                    | true =>
                      have HZZ := Lib.hid hz
                      rw [hz] at hec
                      clear hz
                      go_wp2_with fail
                      go_round
                      case rel =>
                        refine ⟨q + 1, _, by omega, by go_num, rfl, fun j hj => ?_⟩
                        rcases Nat.lt_or_ge j q with h4 | h4
                        · exact HQ.out j h4
                        · rw [show j = q by omega, HV.out]; exact HZZ.out
                      case measure => simp [intOf]; omega
                    | false =>
                      have HZZ := Lib.hid hz
                      rw [hz] at hec
                      clear hz
                      go_wp2_with fail
                      go_ret
                      refine ⟨nd_b ?_, HB.out⟩
                      rw [HR2.out]
                      refine all4_no (k := k) hlt ?_
                      rw [E5.out, rim_emp_no hlt hqlt (HV.out.trans HZZ.out), Bool.or_false]
                      exact decide_eq_false (by rw [← HY.out]; omega)
              · go_wp2_with fail
                go_round
                case rel =>
                  refine ⟨k + 1, _, _, _, by omega, by go_num, rfl, rfl, rfl, fun j hj => ?_⟩
                  rcases Nat.lt_or_ge j k with h3 | h3
                  · exact HA.out j h3
                  · rw [show j = k by omega, E5.out, rim_emp_yes (fun i hi => HQ.out i (by omega)), Bool.or_true]
                case measure => simp [intOf]; omega
        · go_wp2_with fail
          go_ret
          refine ⟨nd_b ?_, HB.out⟩
          rw [HR2.out]
          exact all4_yes fun j hj => HA.out j (by omega)
end Go.Proofs.Ytbcolelgbbmjkaa
