/-
  node: walk, Right, Level, Same.
-/
import Derived.Test.YtilhnnbmplnnpaaNdHollow
import Derived.Test.YtilhnnbmplnnpaaNdDist
import Derived.Test.YtilhnnbmplnnpaaNdsW

namespace Go.Proofs.Ytilhnnbmplnnpaa
set_option linter.unusedVariables false
set_option linter.unusedSimpArgs false
open Go.RowKit Nds
def resW : Option Nat → Int
  | none => 0
  | some v => v
theorem nd_i {a b : Int} (h : a = b) : Ending.returned (.int .i64 a) = .returned (.int .i64 b) := by rw [h]
theorem wk_end_eq {l : List Nd} {m p e e' : Nat} (h : (if 1 < (at_ l p).lv then foldTo (wk l m) (at_ l p) e 4 else some e) = some e') : wk l (m + 1) (p + 1) e = if p = e' then some (p + 1) else none := by
  unfold wk
  rw [show p + 1 - 1 = p by omega, h, Option.bind_some]
  by_cases hp : p = e'
  · rw [if_pos (by omega), if_pos hp]
  · rw [if_neg (by omega), if_neg hp]
theorem wk_fail {l : List Nd} {m p e : Nat} (hv : 1 < (at_ l p).lv) {k : Nat} (hk : k ≤ 4) (h : foldTo (wk l m) (at_ l p) e k = none) : wk l (m + 1) (p + 1) e = none := by
  have h4 : ∀ d, foldTo (wk l m) (at_ l p) e (k + d) = none := by
    intro d
    induction d with
    | zero => exact h
    | succ d ih =>
      rw [show k + (d + 1) = k + d + 1 by omega]
      unfold foldTo
      rw [ih]
      rfl
  unfold wk
  rw [show p + 1 - 1 = p by omega, if_pos hv, show (4 : Nat) = k + (4 - k) by omega, h4]
  rfl
set_option maxRecDepth 100000 in
set_option maxHeartbeats 3200000 in
theorem walk_rec (A : Option Addr) (c n : Nat) (l : List Nd) (w : World) (h : Ns w A c l) (hl : looseB l = true) (hn : l.length = n) (hn9 : n ≤ 1000000) : ∀ (m p e : Nat),
    p < n → (at_ l p).lv ≤ m → e ≤ n →
    Calls Try.prog 20 #[.slice A n c, .int .i64 ((p : Int) + 1), .int .i64 (e : Int)] w fun ed w' => ed = .returned (.int .i64 (resW (wk l m (p + 1) e))) ∧ w = w' := by
  have hcap := h.cap
  rw [hn] at hcap
  have HN := Lib.hid h
  have HL := Lib.hid hn
  have HLL := Lib.hid hl
  clear h hn hl
  intro m
  induction m with
  | zero =>
    intro p e hp hm
    have := fit_lv (loose_iff.1 HLL.out p (by rw [HL.out]; exact hp))
    omega
  | succ m ih =>
    intro p e hp hm he
    have hpl : p < l.length := by rw [HL.out]; exact hp
    obtain ⟨R, hR⟩ : ∃ R, R = wk l (m + 1) (p + 1) e := ⟨_, rfl⟩
    rw [← hR]
    have HR := Lib.hid hR
    clear hR
    obtain ⟨b, off, rfl, hb, hc⟩ := HN.out.at_ (by omega)
    obtain ⟨c1, c2, c3, c4, c5⟩ := hc p hpl
    have hfx := Lib.hid (loose_iff.1 HLL.out p hpl)
    have HPL := Lib.hid hpl
    have i1 : (p : Int) < (n : Int) := by omega
    clear hc hpl
    obtain ⟨x, hx⟩ : ∃ x, x = at_ l p := ⟨_, rfl⟩
    rw [← hx] at c1 c2 c3 c4 c5 hfx hm
    have HX := Lib.hid hx
    have hxv := fit_lv hfx.out
    clear hx
    by_cases hlv : 1 < x.lv
    · have HLV := Lib.hid (show 1 < (at_ l p).lv by rw [← HX.out]; exact hlv)
      go_enter Try.func20, Try.ntmps20
      go_wp2_with fail
      go_loop [22, 8, 2] (fun i z en => ∃ (k e' : Nat) (v : Value), k ≤ 4 ∧ e' ≤ n ∧ i = .int .i64 k ∧ z = v ∧ en = .int .i64 e' ∧ foldTo (wk l m) x e k = some e') (fun i _ _ => 4 - (intOf i).toNat)
      case atStart => exact ⟨0, e, _, by omega, he, rfl, rfl, rfl, rfl⟩
      case round =>
        obtain ⟨k, e', v, hk, he', rfl, rfl, rfl, hfo⟩ := hrel
        have HF := Lib.hid hfo
        clear hfo
        by_cases hlt : k < 4
        · have hi := index4 x k hlt
          have hfk := fit_kid hfx.out hlt
          obtain ⟨y, hy⟩ : ∃ y, y = x.kid k := ⟨_, rfl⟩
          rw [← hy] at hi hfk
          have HY := Lib.hid hy
          clear hy
          have hup := kid_up (by omega) hfk
          clear hfk
          by_cases hgt : (e' : Int) < y
          · rcases hup with rfl | ⟨q, rfl, hq, hql⟩
            · omega
            · have hqp : q < p := Nat.lt_of_lt_of_le hq (List.length_take_le _ _)
              have hq2 : (at_ l q).lv ≤ (m : Int) := by
                rw [at_take hqp] at hql
                omega
              have hstep : foldTo (wk l m) x e (k + 1) = wk l m (q + 1) e' := by
                unfold foldTo
                rw [HF.out]
                unfold stepK
                rw [Option.bind_some, ← HY.out, if_pos hgt, show ((q : Int) + 1).toNat = q + 1 by omega]
              have HS := Lib.hid hstep
              clear hql hstep
              cases hw : wk l m (q + 1) e' with
              | none =>
                have HW := Lib.hid hw
                clear hw
                go_wp2_with (go_at_call 20; refine (ih q e' (by omega) hq2 he').mono ?_; rintro ed w1 ⟨rfl, rfl⟩; rw [HW.out]; simp only [resW])
                go_ret
                refine ⟨nd_i ?_, rfl⟩
                rw [HR.out, wk_fail HLV.out (k := k + 1) (by omega) (by rw [← HX.out, HS.out, HW.out])]
                rfl
              | some v =>
                have hve := wk_eq hw
                subst hve
                have HW := Lib.hid hw
                clear hw
                have t0 : (((q + 1 : Nat) : Int) == 0) = false := beq_eq_false_iff_ne.2 (by omega)
                go_wp2_with (go_at_call 20; refine (ih q e' (by omega) hq2 he').mono ?_; rintro ed w1 ⟨rfl, rfl⟩; rw [HW.out]; simp only [resW])
                go_round
                case rel => exact ⟨k + 1, q + 1, _, by omega, by omega, by go_num, rfl, rfl, by rw [HS.out, HW.out]⟩
                case measure => simp [intOf]; omega
          · have hstep : foldTo (wk l m) x e (k + 1) = some e' := by
              unfold foldTo
              rw [HF.out]
              unfold stepK
              rw [Option.bind_some, ← HY.out, if_neg hgt]
            have HS := Lib.hid hstep
            clear hstep hup
            go_wp2_with fail
            go_round
            case rel => exact ⟨k + 1, e', _, by omega, he', by go_num, rfl, rfl, HS.out⟩
            case measure => simp [intOf]; omega
        · have hk4 : k = 4 := by omega
          have HE := Lib.hid (wk_end_eq (m := m) (p := p) (e := e) (e' := e') (by rw [if_pos HLV.out, ← HX.out, ← hk4]; exact HF.out))
          clear hk4
          by_cases hpe : p = e'
          · have t1 : (((p : Int) + 1) != (e' : Int) + 1) = false := by rw [hpe]; simp
            have t2 : ((p : Int) == (e' : Int)) = true := by rw [hpe]; simp
            have HP := Lib.hid hpe
            clear hpe
            go_wp2_with fail
            go_ret
            refine ⟨nd_i ?_, rfl⟩
            rw [HR.out, HE.out, if_pos HP.out]
            simp [resW]
          · have t1 : (((p : Int) + 1) != (e' : Int) + 1) = true := by rw [bne_iff_ne]; omega
            have t2 : ((p : Int) == (e' : Int)) = false := beq_eq_false_iff_ne.2 (by omega)
            have HP := Lib.hid hpe
            clear hpe
            go_wp2_with fail
            go_ret
            refine ⟨nd_i ?_, rfl⟩
            rw [HR.out, HE.out, if_neg HP.out]
            rfl
    · have HE := Lib.hid (wk_end_eq (m := m) (p := p) (e := e) (e' := e) (by rw [if_neg (by rw [← HX.out]; exact hlv)]))
      by_cases hpe : p = e
      · have t1 : (((p : Int) + 1) != (e : Int) + 1) = false := by rw [hpe]; simp
        have t2 : ((p : Int) == (e : Int)) = true := by rw [hpe]; simp
        have HP := Lib.hid hpe
        clear hpe
        go_enter Try.func20, Try.ntmps20
        go_wp2_with fail
        go_ret
        refine ⟨nd_i ?_, rfl⟩
        rw [HR.out, HE.out, if_pos HP.out]
        simp [resW]
      · have t1 : (((p : Int) + 1) != (e : Int) + 1) = true := by rw [bne_iff_ne]; omega
        have t2 : ((p : Int) == (e : Int)) = false := beq_eq_false_iff_ne.2 (by omega)
        have HP := Lib.hid hpe
        clear hpe
        go_enter Try.func20, Try.ntmps20
        go_wp2_with fail
        go_ret
        refine ⟨nd_i ?_, rfl⟩
        rw [HR.out, HE.out, if_neg HP.out]
        rfl
end Go.Proofs.Ytilhnnbmplnnpaa
