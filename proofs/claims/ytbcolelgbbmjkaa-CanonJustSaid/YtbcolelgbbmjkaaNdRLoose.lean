/-
  node: the reference's Loose.
-/
import Derived.Test.YtbcolelgbbmjkaaNdFits
import Derived.IntWalk

namespace Go.Proofs.Ytbcolelgbbmjkaa
set_option linter.unusedVariables false
set_option linter.unusedSimpArgs false
open Go.RowKit Nds
theorem NdAt.kid {w : World} {b o : Nat} {x : Nd} (h : NdAt w b o x) {q : Nat} (hq : q < 4) : w.cell? ⟨b, o + 1 + q, none⟩ = some (.int .i64 (x.kid q)) := by
  obtain ⟨h1, h2, h3, h4, h5⟩ := h
  match q, hq with
  | 0, _ => exact h2
  | 1, _ => exact h3
  | 2, _ => exact h4
  | 3, _ => exact h5
theorem kidB_neg (l : List Nd) (v k : Int) (h : k < 0) : kidB l v k = false := by
  unfold kidB
  split
  · exact decide_eq_false (by omega)
  · exact decide_eq_false (by omega)
theorem loose_no {l : List Nd} {k : Nat} (hk : k < l.length) (h : fitB (l.take k) (at_ l k) = false) : false = looseB l := by
  cases hq : looseB l
  · rfl
  · have := loose_iff.1 hq k hk
    rw [h] at this
    cases this
set_option maxRecDepth 100000 in
set_option maxHeartbeats 3200000 in
theorem rloose_any (A : Option Addr) (c : Nat) (l : List Nd) (w : World) (h : Ns w A c l) :
    Calls Try.prog 11 #[.slice A l.length c] w fun e w' => e = .returned (.bool (looseB l)) ∧ ∃ m, w' = w.drewN m := by
  have hcap := h.cap
  obtain ⟨R, hR⟩ : ∃ R, R = looseB l := ⟨_, rfl⟩
  rw [← hR]
  have HR := Lib.hid hR
  have HN := Lib.hid h
  clear hR h
  obtain ⟨n, hn⟩ : ∃ n, n = l.length := ⟨_, rfl⟩
  rw [← hn] at hcap ⊢
  have HL := Lib.hid hn
  clear hn
  go_enter Try.func11, Try.ntmps11
  go_wp2
  go_loopw [3, 4, 5] (fun i z1 z2 wr => ∃ (k : Nat) (v1 v2 : Value) (nd : Nat), wr = w.drewN nd ∧ k ≤ n ∧ i = .int .i64 k ∧ z1 = v1 ∧ z2 = v2 ∧ (∀ j, j < k → fitB (l.take j) (at_ l j) = true)) (fun i _ _ _ => n - (intOf i).toNat)
  case atStart => exact ⟨0, _, _, 0, rfl, by omega, rfl, rfl, rfl, fun j hj => by omega⟩
  case round =>
    obtain ⟨k, v1, v2, nd, rfl, hk, rfl, rfl, rfl, hall⟩ := hrel
    have HA := Lib.hid hall
    clear hall
    by_cases hlt : k < n
    · obtain ⟨b, off, rfl, hb, hc⟩ := HN.out.at_ (by rw [← HL.out]; omega)
      have hck := hc k (by rw [← HL.out]; omega)
      obtain ⟨c1, -, -, -, -⟩ := id hck
      have HC := Lib.hid hc
      have HCK := Lib.hid hck
      clear hc hck
      obtain ⟨x, hx⟩ : ∃ x, x = at_ l k := ⟨_, rfl⟩
      rw [← hx] at c1
      have HX := Lib.hid hx
      clear hx
      have i1 : (k : Int) < (n : Int) := by omega
      by_cases hv : 1 ≤ x.lv ∧ x.lv ≤ 1329
      · obtain ⟨hv1, hv2⟩ := hv
        obtain ⟨wo, hwo⟩ : ∃ wo : World, wo = w.drewN nd := ⟨_, rfl⟩
        have c1' : wo.cell? ⟨b, off + k * 5, none⟩ = some (.int .i64 x.lv) := by rw [hwo]; exact c1
        have HW := Lib.hid hwo
        rw [← hwo]
        clear hwo c1
        go_wp2
        go_loopw [4, 5] (fun i z wr => ∃ (q : Nat) (v : Value) (m : Nat), wr = wo.drewN m ∧ q ≤ 4 ∧ i = .int .i64 q ∧ z = v ∧ ∀ j, j < q → kidB (l.take k) x.lv (x.kid j) = true) (fun i _ _ => 4 - (intOf i).toNat)
        case atStart => exact ⟨0, _, 0, rfl, by omega, rfl, rfl, fun j hj => by omega⟩
        case round =>
          obtain ⟨q, v, m, rfl, hq, rfl, rfl, hkq⟩ := hrel
          have HQ := Lib.hid hkq
          clear hkq
          by_cases hq4 : q < 4
          · have hy := HCK.out.kid hq4
            have hwk := (HN.out.wf (i := k) (by rw [← HL.out]; exact hlt)).kid q
            rw [← HX.out] at hy hwk
            have hy' : wo.cell? ⟨b, off + k * 5 + 1 + q, none⟩ = some (.int .i64 (x.kid q)) := by rw [HW.out]; exact hy
            obtain ⟨y, hye⟩ : ∃ y, y = x.kid q := ⟨_, rfl⟩
            rw [← hye] at hy' hwk
            obtain ⟨hw1, hw2⟩ := hwk
            have HY := Lib.hid hye
            clear hy hye
            have i2 : (q : Int) < 4 := by omega
            by_cases hn : y < 0
            · have HB := Lib.hid (show kidB (l.take k) x.lv (x.kid q) = false by rw [← HY.out]; exact kidB_neg _ _ _ hn)
              have t1 : decide (y < 0) = true := decide_eq_true hn
              go_wp2
              go_ret
              refine ⟨nd_b ?_, by rw [HW.out]; first | exact ⟨_, rfl⟩ | exact ⟨_, World.drewN_drewN _ _ _⟩ | (simp only [World.drewN_drewN]; exact ⟨_, rfl⟩)⟩
              rw [HR.out]
              exact loose_no (k := k) (by rw [← HL.out]; exact hlt) (by rw [← HX.out]; exact fitB_kid hq4 HB.out)
            · have t1 : decide (y < 0) = false := decide_eq_false hn
              by_cases hl1 : x.lv = 1
              · have t2 : (x.lv == 1) = true := by rw [beq_iff_eq]; exact hl1
                have t3 : decide (1 < x.lv) = false := decide_eq_false (by omega)
                by_cases hy255 : y ≤ 255
                · have HB := Lib.hid (show kidB (l.take k) x.lv (x.kid q) = true by rw [← HY.out, hl1, kidB_one]; exact decide_eq_true (by omega))
                  have t4 : decide (255 < y) = false := decide_eq_false (by omega)
                  clear hl1
                  go_wp2
                  go_quiet (fail)
                  go_wp2
                  go_roundw
                  case rel =>
                    refine ⟨q + 1, _, _, rfl, by omega, by go_num, rfl, fun j hj => ?_⟩
                    rcases Nat.lt_or_ge j q with h1 | h1
                    · exact HQ.out j h1
                    · rw [show j = q by omega]; exact HB.out
                  case measure => simp [intOf]; omega
                · have HB := Lib.hid (show kidB (l.take k) x.lv (x.kid q) = false by rw [← HY.out, hl1, kidB_one]; exact decide_eq_false (by omega))
                  have t4 : decide (255 < y) = true := decide_eq_true (by omega)
                  clear hl1
                  go_wp2
                  go_ret
                  refine ⟨nd_b ?_, by rw [HW.out]; first | exact ⟨_, rfl⟩ | exact ⟨_, World.drewN_drewN _ _ _⟩ | (simp only [World.drewN_drewN]; exact ⟨_, rfl⟩)⟩
                  rw [HR.out]
                  exact loose_no (k := k) (by rw [← HL.out]; exact hlt) (by rw [← HX.out]; exact fitB_kid hq4 HB.out)
              · have t2 : (x.lv == 1) = false := beq_eq_false_iff_ne.2 hl1
                have t3 : decide (1 < x.lv) = true := decide_eq_true (by omega)
                rcases (show y = 0 ∨ (0 < y ∧ (k : Int) < y) ∨ (0 < y ∧ y ≤ (k : Int)) by omega) with h0 | ⟨h0, h1⟩ | ⟨h0, h1⟩
                · have HB := Lib.hid (show kidB (l.take k) x.lv (x.kid q) = true by rw [← HY.out, h0]; exact kidB_zero _ _ hl1)
                  have t4 : decide (0 < y) = false := decide_eq_false (by omega)
                  clear hl1 h0
                  go_wp2
                  go_quiet (fail)
                  go_wp2
                  go_roundw
                  case rel =>
                    refine ⟨q + 1, _, _, rfl, by omega, by go_num, rfl, fun j hj => ?_⟩
                    rcases Nat.lt_or_ge j q with h1 | h1
                    · exact HQ.out j h1
                    · rw [show j = q by omega]; exact HB.out
                  case measure => simp [intOf]; omega
                · have HB := Lib.hid (show kidB (l.take k) x.lv (x.kid q) = false by rw [← HY.out]; exact kidB_out _ _ _ hl1 (.inr (by rw [List.length_take, ← HL.out]; omega)))
                  have t4 : decide (0 < y) = true := decide_eq_true h0
                  have t5 : decide ((k : Int) < y) = true := decide_eq_true h1
                  clear hl1
                  go_wp2
                  go_quiet (fail)
                  go_wp2
                  go_ret
                  refine ⟨nd_b ?_, by rw [HW.out]; first | exact ⟨_, rfl⟩ | exact ⟨_, World.drewN_drewN _ _ _⟩ | (simp only [World.drewN_drewN]; exact ⟨_, rfl⟩)⟩
                  rw [HR.out]
                  exact loose_no (k := k) (by rw [← HL.out]; exact hlt) (by rw [← HX.out]; exact fitB_kid hq4 HB.out)
                · have t4 : decide (0 < y) = true := decide_eq_true h0
                  have t5 : decide ((k : Int) < y) = false := decide_eq_false (by omega)
                  obtain ⟨p, rfl⟩ : ∃ p : Nat, y = (p : Int) + 1 := ⟨(y - 1).toNat, by omega⟩
                  have hpk : p < k := by omega
                  have cp : wo.cell? ⟨b, off + p * 5, none⟩ = some (.int .i64 (at_ l p).lv) := by rw [HW.out]; exact (HC.out p (by rw [← HL.out]; omega)).1
                  have e1 : IntKind.i64.wrap ((p : Int) + 1 - 1) = (p : Int) := by rw [show (p : Int) + 1 - 1 = (p : Int) by omega]; exact IntWalk.i64_in _ (by omega)
                  have e2 : IntKind.i64.wrap (x.lv - 1) = x.lv - 1 := IntWalk.i64_in _ (by omega)
                  have i3 : (p : Int) < (n : Int) := by omega
                  have i4 : (0 : Int) ≤ (p : Int) := by omega
                  by_cases hu : (at_ l p).lv = x.lv - 1
                  · have HB := Lib.hid (show kidB (l.take k) x.lv (x.kid q) = true by rw [← HY.out, kidB_in _ _ _ hl1 (by rw [List.length_take, ← HL.out]; omega), at_take hpk]; exact decide_eq_true hu)
                    have t6 : ((at_ l p).lv != x.lv - 1) = false := by rw [hu]; simp
                    generalize (at_ l p).lv = u at *
                    clear hl1 hu
                    go_wp2
                    go_quiet (fail)
                    go_wp2
                    go_roundw
                    case rel =>
                      refine ⟨q + 1, _, _, rfl, by omega, by go_num, rfl, fun j hj => ?_⟩
                      rcases Nat.lt_or_ge j q with h1 | h1
                      · exact HQ.out j h1
                      · rw [show j = q by omega]; exact HB.out
                    case measure => simp [intOf]; omega
                  · have HB := Lib.hid (show kidB (l.take k) x.lv (x.kid q) = false by rw [← HY.out, kidB_in _ _ _ hl1 (by rw [List.length_take, ← HL.out]; omega), at_take hpk]; exact decide_eq_false hu)
                    have t6 : ((at_ l p).lv != x.lv - 1) = true := by rw [bne_iff_ne]; exact hu
                    generalize (at_ l p).lv = u at *
                    clear hl1 hu
                    go_wp2
                    go_quiet (fail)
                    go_wp2
                    go_ret
                    refine ⟨nd_b ?_, by rw [HW.out]; first | exact ⟨_, rfl⟩ | exact ⟨_, World.drewN_drewN _ _ _⟩ | (simp only [World.drewN_drewN]; exact ⟨_, rfl⟩)⟩
                    rw [HR.out]
                    exact loose_no (k := k) (by rw [← HL.out]; exact hlt) (by rw [← HX.out]; exact fitB_kid hq4 HB.out)
          · go_wp2
            go_roundw
            case rel =>
              refine ⟨k + 1, _, _, _, by rw [HW.out, World.drewN_drewN], by omega, by go_num, rfl, rfl, fun j hj => ?_⟩
              rcases Nat.lt_or_ge j k with h1 | h1
              · exact HA.out j h1
              · rw [show j = k by omega, ← HX.out]
                exact fitB_yes ⟨hv1, hv2⟩ (fun j hj => HQ.out j (by omega))
            case measure => simp [intOf]; omega
      · have hr : R = false := HR.out.trans (loose_no (k := k) (by rw [← HL.out]; exact hlt) (by rw [← HX.out]; exact fitB_no hv)).symm
        subst hr
        rcases (show x.lv < 1 ∨ (1 ≤ x.lv ∧ 1329 < x.lv) by omega) with h | ⟨h, h3⟩
        all_goals
          go_wp2
          go_ret
          exact ⟨rfl, _, rfl⟩
    · go_wp2
      go_ret
      refine ⟨nd_b ?_, _, rfl⟩
      rw [HR.out]
      exact (loose_iff.2 fun i hi => HA.out i (by rw [← HL.out] at hi; omega)).symm
theorem rloose_at (A : Option Addr) (c n : Nat) (l : List Nd) (w : World) (h : Ns w A c l) (hn : l.length = n) :
    Calls Try.prog 11 #[.slice A n c] w fun e w' => e = .returned (.bool (looseB l)) ∧ ∃ m, w' = w.drewN m := by
  subst hn
  exact rloose_any A c l w h
theorem Ns.drewN {w : World} {A : Option Addr} {c : Nat} {l : List Nd} (h : Ns w A c l) (m : Nat) : Ns (w.drewN m) A c l := h
end Go.Proofs.Ytbcolelgbbmjkaa
