/-
  The reference's Same: the same limbs?
-/
import Derived.Test.YthkeehfoefjnfaaMem
import Derived.Deep.QuietTactic
import Derived.BigQuiet
namespace Go.Proofs.Ythkeehfoefjnfaa
set_option linter.unusedVariables false
set_option linter.unusedSimpArgs false
open Go.RowKit Num

theorem same_lists {xs ys : List Nat} (hl : xs.length = ys.length) (h : ∀ j, j < xs.length → xs[j]?.getD 0 = ys[j]?.getD 0) : xs = ys := by
  refine List.ext_getElem hl fun j h1 h2 => ?_
  have := h j h1
  rwa [List.getElem?_eq_getElem h1, List.getElem?_eq_getElem h2] at this

set_option maxRecDepth 100000 in
set_option maxHeartbeats 800000 in
theorem same_any (A B : Option Addr) (c d : Nat) (xs ys : List Nat) (w : World) (h : Us w A c xs) (k : Us w B d ys) (hx : xs.length ≤ 1000000) :
    Calls Try.prog 13 #[.slice A xs.length c, .slice B ys.length d] w fun e w' => e = .returned (.bool (decide (xs = ys))) ∧ Below w.heap.size w w' := by
  obtain ⟨r, hr⟩ : ∃ r, r = decide (xs = ys) := ⟨_, rfl⟩
  rw [← hr]
  have HR := Lib.hid hr
  clear hr
  by_cases hl : xs.length = ys.length
  · by_cases h0 : 0 < xs.length
    · obtain ⟨b, off, rfl, hb, hc⟩ := h.at_ h0
      obtain ⟨b2, off2, rfl, hb2, hc2⟩ := k.at_ (by omega)
      clear h k
      obtain ⟨n, hn⟩ : ∃ n, n = xs.length := ⟨_, rfl⟩
      rw [← hl, ← hn]
      have HC := Lib.hid hc
      have HC2 := Lib.hid hc2
      have HL := Lib.hid hl
      have HN := Lib.hid hn
      have hn1 : n ≤ 1000000 := by omega
      clear hc hc2 hl hn h0 hx
      go_enter Try.func13, Try.ntmps13
      go_wp2
      go_loopw [5] (fun i wr => ∃ k : Nat, k ≤ n ∧ i = .int .i64 k ∧ (∀ j, j < k → xs[j]?.getD 0 = ys[j]?.getD 0) ∧ Below w.heap.size w wr) (fun i _ => n - (intOf i).toNat)
      case atStart => exact ⟨0, by omega, rfl, fun j hj => by omega, Below.refl _ _⟩
      case round =>
        obtain ⟨k, hk, rfl, hall, hbw⟩ := hrel
        have HA := Lib.hid hall
        clear hall
        by_cases hlt : k < n
        · have e1 := (hbw.cell (p := ⟨b, off + k, none⟩) hb).trans (HC.out k (by rw [← HN.out]; exact hlt))
          have e2 := (hbw.cell (p := ⟨b2, off2 + k, none⟩) hb2).trans (HC2.out k (by rw [← HL.out, ← HN.out]; exact hlt))
          obtain ⟨x, hxe⟩ : ∃ x, x = xs[k]?.getD 0 := ⟨_, rfl⟩
          obtain ⟨y, hye⟩ : ∃ y, y = ys[k]?.getD 0 := ⟨_, rfl⟩
          rw [← hxe] at e1
          rw [← hye] at e2
          have HX := Lib.hid hxe
          have HY := Lib.hid hye
          clear hxe hye
          have i1 : (k : Int) < (n : Int) := by omega
          by_cases hxy : x = y
          · subst hxy
            go_wp2
            go_quiet (fail)
            go_wp2
            go_roundw
            case rel =>
              refine ⟨k + 1, by omega, by go_num, fun j hj => ?_, below_drewN hbw _⟩
              rcases Nat.lt_or_ge j k with h1 | h1
              · exact HA.out j h1
              · have : j = k := by omega
                subst this
                rw [← HX.out, ← HY.out]
            case measure => simp [intOf]; omega
          · have t1 : ((x : Int) != (y : Int)) = true := by rw [bne_iff_ne]; omega
            clear hxy
            go_wp2
            go_quiet (fail)
            go_wp2
            go_ret
            refine ⟨?_, below_drewN hbw _⟩
            have : r = false := by
              rw [HR.out]
              refine decide_eq_false fun e => ?_
              have := HX.out
              rw [e, ← HY.out] at this
              subst this
              simp at t1
            rw [this]; rfl
        · obtain rfl : k = n := by omega
          go_wp2
          go_ret
          refine ⟨?_, hbw⟩
          have : r = true := by
            rw [HR.out]
            exact decide_eq_true (same_lists HL.out (by rw [← HN.out]; exact HA.out))
          rw [this]; rfl
    · have e1 : xs.length = 0 := by omega
      have e2 : ys.length = 0 := by omega
      have : r = true := by
        rw [HR.out]
        exact decide_eq_true ((List.eq_nil_of_length_eq_zero e1).trans (List.eq_nil_of_length_eq_zero e2).symm)
      rw [e1, e2, this]
      clear HR h k h0 hx hl e1 e2 this
      go_enter Try.func13, Try.ntmps13
      go_wp2
      refine wp_loop_rounds 1 ?_
      rw [rounds_succ]
      go_wp2
      go_ret
      exact ⟨rfl, Below.refl _ _⟩
  · have : r = false := by
      rw [HR.out]
      exact decide_eq_false fun e => hl (by rw [e])
    rw [this]
    clear HR this h k
    have t1 : ((xs.length : Int) != (ys.length : Int)) = true := by rw [bne_iff_ne]; omega
    clear hl
    generalize xs.length = n at *
    generalize ys.length = m at *
    go_enter Try.func13, Try.ntmps13
    go_wp2
    go_ret
    exact ⟨rfl, Below.refl _ _⟩

end Go.Proofs.Ythkeehfoefjnfaa
