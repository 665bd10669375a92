/-
  The reference's Parse.
-/
import Derived.Test.YteekijmhghokkaaDoorDecParse
import Derived.Test.YteekijmhghokkaaDoorNumbA
import Derived.Test.YteekijmhghokkaaDoorLimbF

namespace Go.Proofs.YteekijmhghokkaaDoor
set_option linter.unusedVariables false
set_option linter.unusedSimpArgs false
open Go.RowKit Num Digs
theorem okNum_nil (n : Bool) : okNum [] n = false := by simp [okNum]
theorem okNum_lead {l : List UInt8} {n : Bool} (h : lead l ≠ l.length) : okNum l n = false := by
  unfold okNum
  split
  · rename_i h0
    subst h0
    exact absurd rfl h
  · exact decide_eq_false (fun ⟨_, _, hc⟩ => h hc)
theorem okNum_nought {l : List UInt8} {n : Bool} (h : l.head? = some 48) (h2 : 1 < l.length ∨ n = true) : okNum l n = false := by
  unfold okNum
  split
  · rename_i h0
    rcases h2 with h2 | h2
    · rw [h0] at h2; simp at h2
    · rw [h2]; rfl
  · exact decide_eq_false (fun ⟨_, hb, _⟩ => hb h)
theorem okNum_one {l : List UInt8} (h : l.head? = some 48) (h2 : l.length = 1) : okNum l false = true := by
  cases l with
  | nil => simp at h2
  | cons x r =>
    have : r = [] := List.eq_nil_of_length_eq_zero (by simpa using h2)
    subst this
    simp at h
    subst h
    rfl
theorem okNum_other {l : List UInt8} {n : Bool} (h0 : l ≠ []) (h : l.head? ≠ some 48) (h2 : lead l = l.length) : okNum l n = true := by
  unfold okNum
  rw [if_neg (fun e => h (by rw [e]; rfl))]
  exact decide_eq_true ⟨h0, h, h2⟩
/-- The limbs of the first i digits. -/
def RParseRel (t : ByteArray) (w : World) (i : Nat) (A : Option Addr) (c : Nat) (ys : List Nat) (wr : World) : Prop :=
  Us wr A c ys ∧ Canon ys ∧ val ys = num (t.data.toList.take i) ∧ ys.length ≤ i ∧ Below w.heap.size w wr
theorem RParseRel.next {t : ByteArray} {w wr w1 : World} {i c c1 d : Nat} {A A1 : Option Addr} {ys rs : List Nat} (h : RParseRel t w i A c ys wr) (hi : i < t.size) (hd : d < 10) (hg : t.data.toList[i]? = some (dig d)) (hall : ∀ b ∈ t.data.toList, isd b = true)
    (q : Us w1 A1 c1 rs) (hk : Canon rs) (hv : val rs = val ys * 10 + d) (b : Below wr.heap.size wr w1) : RParseRel t w (i + 1) A1 c1 rs w1 := by
  obtain ⟨_, _, h3, h4, h5⟩ := h
  have hn : val rs = num (t.data.toList.take (i + 1)) := by rw [num_take hi hd hg, ← h3, hv]
  refine ⟨q, hk, hn, ?_, h5.trans (b.mono h5.size)⟩
  refine len_le hk ?_
  rw [hn]
  have hl := num_lt (t.data.toList.take (i + 1)) (fun x hx => hall x (List.mem_of_mem_take hx))
  have hlen : (t.data.toList.take (i + 1)).length = i + 1 := by rw [List.length_take, ba_len]; omega
  rw [hlen] at hl
  exact Nat.lt_of_lt_of_le hl (Nat.pow_le_pow_left (by decide) _)
theorem RParseRel.last {t : ByteArray} {w wr : World} {c : Nat} {A : Option Addr} {ys : List Nat} (h : RParseRel t w t.size A c ys wr) : val ys = num t.data.toList := by
  rw [h.2.2.1, List.take_of_length_le (by rw [ba_len]; exact Nat.le_refl _)]
theorem ival_minus {s : Bool} {rs : List Nat} {n : Nat} (h : ival s rs = -(n : Int)) (hn : 0 < n) : s = true ∧ val rs = n := by
  unfold ival at h
  cases s
  · simp at h; omega
  · simp at h; exact ⟨rfl, by omega⟩
set_option maxRecDepth 100000 in
set_option maxHeartbeats 6400000 in
theorem rparse_plain (s : ByteArray) (w : World) (hs : s.size ≤ maxLen) (hneg : neg s.data.toList = false) :
    Calls Tryd.prog 11 #[.string s] w (RetP s.data.toList w) := by
  obtain ⟨l, hl⟩ : ∃ l, l = s.data.toList := ⟨_, rfl⟩
  rw [← hl] at hneg ⊢
  obtain ⟨hR, hB⟩ := box1 w (.bool false) (.slice none 0 0) 24
  have HR := Lib.hid hR
  have HB := Lib.hid hB
  have HNG := Lib.hid hneg.symm
  obtain ⟨x1, x2, x3, x4, x5⟩ := hR
  obtain ⟨t, hst⟩ : ∃ t, t = s := ⟨_, rfl⟩
  subst hst
  have HT := Lib.hid (show t.data.toList = body l by unfold body; rw [hneg, hl]; rfl)
  have hms := hs
  unfold maxLen at hs
  have hsm : t.size = 0 ∨ ∃ h0 : 0 < t.size, ¬ ((t[0]'h0).toNat : Int) = 45 := by
    rcases Nat.eq_zero_or_pos t.size with h0 | h0
    · exact .inl h0
    · refine .inr ⟨h0, fun e => ?_⟩
      rw [hl] at hneg
      unfold neg at hneg
      rw [List.head?_eq_getElem?, ba_get h0] at hneg
      have h2 : (t[0]'h0) = 45 := UInt8.toNat_inj.1 (by rw [show (45 : UInt8).toNat = 45 from rfl]; omega)
      rw [h2] at hneg
      simp at hneg
  clear hB hl hneg
  rcases hsm with hsm | ⟨h0, hsm⟩
  · have h0 : ¬ 0 < t.size := by omega
    go_enter Tryd.func11, Tryd.ntmps11
    go_upto_region 5 with fail
    go_wp2_with fail
    refine bodyPost_ret (v := .tuple #[.agg #[.bool false, .slice none 0 0], .int .i64 2]) (by simp [results, Tryd.results11, go_sem, x1, x2]) rfl ?_
    exact ⟨false, none, 0, [], 2, rfl, Us.nil _, ⟨canon_nil, by simp⟩, .inl ⟨by rw [← HNG.out, ← HT.out]; rw [ba_nil h0]; exact okNum_nil _, rfl, rfl, rfl⟩, HB.out⟩
  · skip
    have hz0 : (((t.size : Nat) : Int) == 0) = false := by rw [beq_eq_false_iff_ne]; omega
    by_cases hle : lead t.data.toList = t.size
    case neg =>
      have hz : ¬ (((lead t.data.toList : Nat) : Int) = ((t.size : Nat) : Int)) := by omega
      have HLE := Lib.hid hle
      clear hle
      go_enter Tryd.func11, Tryd.ntmps11
      go_upto_region 5 with fail
      go_wp2_with (go_at_call 16; go_loud (refine (rdigits_any t 0 _ hms (by omega) (by omega)).mono ?_; rintro e w1 ⟨rfl, b⟩; rw [show leadAt t.data.toList 0 = lead t.data.toList from by unfold leadAt; simp]; clear x1 x2 x3 x4 x5; have hb := Lib.hid b; obtain ⟨x1, x2, x3, x4, x5⟩ := HR.out.below b; clear b))
      all_goals
       obtain ⟨e1, e2, _, _, _⟩ := (HR.out.below hb.out).set (.bool false) (.slice none 0 0)
       refine bodyPost_ret (v := .tuple #[.agg #[.bool false, .slice none 0 0], .int .i64 2]) (by simp [results, Tryd.results11, go_sem, e1, e2]) rfl ?_
       exact ⟨false, none, 0, [], 2, rfl, Us.nil _, ⟨canon_nil, by simp⟩, .inl ⟨by rw [← HNG.out, ← HT.out]; exact okNum_lead (by rw [ba_len]; exact HLE.out), rfl, rfl, rfl⟩, ((HB.out.trans (hb.out.mono HB.out.size)).setCell (p := ⟨w.heap.size, 0, none⟩) (Nat.le_refl _) _).setCell (p := ⟨w.heap.size, 1, none⟩) (Nat.le_refl _) _⟩
    have hle2 : lead t.data.toList = t.data.toList.length := by rw [ba_len]; exact hle
    have HLE := Lib.hid hle2
    have HLZ := Lib.hid (show ((lead t.data.toList : Nat) : Int) = ((t.size : Nat) : Int) by omega)
    clear hle hle2
    have HH := Lib.hid (show t.data.toList.head? = some (t[0]'h0) by rw [List.head?_eq_getElem?, ba_get h0])
    obtain ⟨y, hy⟩ : ∃ y, y = (t[0]'h0).toNat := ⟨_, rfl⟩
    have HY := Lib.hid hy
    clear hy
    have HYR := Lib.hid (fun (e : y = 48) => show t.data.toList.head? = some 48 by rw [HH.out]; congr 1; exact UInt8.toNat_inj.1 (by rw [← HY.out, e]; rfl))
    have HYN := Lib.hid (fun (e : y ≠ 48) => show t.data.toList.head? ≠ some 48 by rw [HH.out]; intro e2; apply e; rw [HY.out, Option.some.inj e2]; rfl)
    have hok : (y = 48 ∧ 1 < t.size) ∨ (okNum t.data.toList false = true ∧ (y = 48 → ¬ 1 < t.size)) := by
      by_cases h48 : y = 48
      · by_cases h1 : 1 < t.size
        · exact .inl ⟨h48, h1⟩
        · exact .inr ⟨okNum_one (HYR.out h48) (by rw [ba_len]; omega), fun _ => h1⟩
      · exact .inr ⟨okNum_other (ba_ne h0) (HYN.out h48) HLE.out, fun h => absurd h h48⟩
    rcases hok with ⟨h48, h1⟩ | ⟨hok, h1⟩
    · have hyz : ((t[0]'h0).toNat : Int) = 48 := by rw [← HY.out]; omega
      go_enter Tryd.func11, Tryd.ntmps11
      go_upto_region 5 with fail
      go_wp2_with (go_at_call 16; go_loud (refine (rdigits_any t 0 _ hms (by omega) (by omega)).mono ?_; rintro e w1 ⟨rfl, b⟩; rw [show leadAt t.data.toList 0 = lead t.data.toList from by unfold leadAt; simp]; rw [HLZ.out]; clear x1 x2 x3 x4 x5; have hb := Lib.hid b; obtain ⟨x1, x2, x3, x4, x5⟩ := HR.out.below b; clear b))
      all_goals
       obtain ⟨e1, e2, _, _, _⟩ := (HR.out.below hb.out).set (.bool false) (.slice none 0 0)
       refine bodyPost_ret (v := .tuple #[.agg #[.bool false, .slice none 0 0], .int .i64 2]) (by simp [results, Tryd.results11, go_sem, e1, e2]) rfl ?_
       exact ⟨false, none, 0, [], 2, rfl, Us.nil _, ⟨canon_nil, by simp⟩, .inl ⟨by rw [← HNG.out, ← HT.out]; exact okNum_nought (HYR.out h48) (.inl (by rw [ba_len]; exact h1)), rfl, rfl, rfl⟩, ((HB.out.trans (hb.out.mono HB.out.size)).setCell (p := ⟨w.heap.size, 0, none⟩) (Nat.le_refl _) _).setCell (p := ⟨w.heap.size, 1, none⟩) (Nat.le_refl _) _⟩
    have HO := Lib.hid hok
    clear hok
    have hyz : ¬ ((t[0]'h0).toNat : Int) = 48 ∨ (((t[0]'h0).toNat : Int) = 48 ∧ t.size = 1) := by
      rw [← HY.out]
      by_cases h48 : y = 48
      · exact .inr ⟨by omega, by have := h1 h48; omega⟩
      · exact .inl (by omega)
    clear h1
    by_cases h4 : 400 < t.size
    · have hyz : ¬ ((t[0]'h0).toNat : Int) = 48 := by
        rcases hyz with hyz | ⟨_, ht1⟩
        · exact hyz
        · omega
      go_enter Tryd.func11, Tryd.ntmps11
      go_upto_region 5 with fail
      go_wp2_with (go_at_call 16; go_loud (refine (rdigits_any t 0 _ hms (by omega) (by omega)).mono ?_; rintro e w1 ⟨rfl, b⟩; rw [show leadAt t.data.toList 0 = lead t.data.toList from by unfold leadAt; simp]; rw [HLZ.out]; clear x1 x2 x3 x4 x5; have hb := Lib.hid b; obtain ⟨x1, x2, x3, x4, x5⟩ := HR.out.below b; clear b))
      obtain ⟨e1, e2, _, _, _⟩ := (HR.out.below hb.out).set (.bool false) (.slice none 0 0)
      refine bodyPost_ret (v := .tuple #[.agg #[.bool false, .slice none 0 0], .int .i64 4]) (by simp [results, Tryd.results11, go_sem, e1, e2]) rfl ?_
      have hbb := HB.out.trans (hb.out.mono HB.out.size)
      exact ⟨false, none, 0, [], 4, rfl, Us.nil _, ⟨canon_nil, by simp⟩, .inr (.inl ⟨by rw [← HNG.out, ← HT.out]; exact HO.out, by rw [← HT.out, ba_len]; exact h4, rfl, rfl, rfl⟩), (hbb.setCell (p := ⟨w.heap.size, 0, none⟩) (Nat.le_refl _) _).setCell (p := ⟨w.heap.size, 1, none⟩) (Nat.le_refl _) _⟩
    have HAll := Lib.hid (isNum_all (okNum_isd HO.out))
    have ht4 : t.size ≤ 400 := by omega
    clear h4
    rcases hyz with hyz | ⟨hyz, ht1⟩
    all_goals
      go_enter Tryd.func11, Tryd.ntmps11
      go_upto_region 5 with fail
      go_wp2_with (go_at_call 16; go_loud (refine (rdigits_any t 0 _ hms (by omega) (by omega)).mono ?_; rintro e w1 ⟨rfl, b⟩; rw [show leadAt t.data.toList 0 = lead t.data.toList from by unfold leadAt; simp]; rw [HLZ.out]; clear x1 x2 x3 x4 x5; have hb := Lib.hid b; obtain ⟨x1, x2, x3, x4, x5⟩ := HR.out.below b; clear b))
      have hbb := HB.out.trans (hb.out.mono HB.out.size)
      have R0 := Lib.hid (show RParseRel t w 0 none 0 [] w1 from ⟨Us.nil _, canon_nil, by simp [num, val], Nat.le_refl _, hbb⟩)
      have BX0 := Lib.hid (HR.out.below hb.out)
      clear hbb x1 x2 x3 x4 x5
      go_loopw [6, 7] (fun lv iv wr => ∃ (i : Nat) (A : Option Addr) (c : Nat) (ys : List Nat), i ≤ t.size ∧ iv = .int .i64 i ∧ lv = .slice A ys.length c ∧ RParseRel t w i A c ys wr ∧ Box wr w.heap.size (.bool false) (.slice none 0 0)) (fun _ iv _ => t.size - (intOf iv).toNat)
      case atStart => exact ⟨0, none, 0, [], Nat.zero_le _, rfl, rfl, R0.out, BX0.out⟩
      case round =>
        obtain ⟨i, A, c, ys, hi, rfl, rfl, hRr, hBx⟩ := hrel
        have R := Lib.hid hRr
        have BX := Lib.hid hBx
        have hyl := hRr.2.2.2.1
        have hcap := hRr.1.cap
        clear R0 BX0 hRr hBx
        by_cases hlt : i < t.size
        · obtain ⟨d, hd, hbd⟩ := isd_iff.1 (HAll.out _ (List.mem_of_getElem? (ba_get hlt)))
          have HG := Lib.hid (show t.data.toList[i]? = some (dig d) by rw [ba_get hlt, hbd])
          have hti : ((t[i]'hlt).toNat : Int) = 48 + (d : Int) := by rw [hbd, dig_nat hd]; omega
          have hdz := Lib.hid (show (48 + (d : Int) - 48) = (d : Int) by omega)
          clear hbd
          go_wp2_with (go_at_call 25; rw [hdz.out]; go_loud (refine (rmul_any _ _ ys 10 d _ R.out.1 (by omega) (by omega) (by omega)).mono ?_; rintro e w2 ⟨A2, c2, r2, rfl, q, k2, v2, b2⟩; have RN := Lib.hid (R.out.next hlt hd HG.out HAll.out q k2 v2 b2); have BN := Lib.hid (BX.out.below b2); clear q k2 v2 b2))
          go_roundw
          case rel => exact ⟨i + 1, A2, c2, r2, by omega, by go_num, rfl, RN.out, BN.out⟩
          case measure => simp [intOf]; omega
        · obtain rfl : i = t.size := by omega
          have HV := Lib.hid R.out.last
          obtain ⟨x1, x2, x3, x4, x5⟩ := BX.out
          have hbw := R.out.2.2.2.2
          have BWR := Lib.hid hbw
          have hbs := hbw.size
          clear hbw
          go_wp2_with fail
          have hbx := (BX.out.set (.bool false) (.slice A ys.length c)).alloc (.cells #[.bool false, .slice A ys.length c] 24)
          obtain ⟨e1, e2, _, _, _⟩ := hbx
          refine bodyPost_ret (v := .tuple #[.agg #[.bool false, .slice A ys.length c], .int .i64 0]) (by simp [results, Tryd.results11, go_sem, e1, e2]) rfl ?_
          have hb3 := (BWR.out.setCell (p := ⟨w.heap.size, 0, none⟩) (Nat.le_refl _) (.bool false)).setCell (p := ⟨w.heap.size, 1, none⟩) (Nat.le_refl _) (.slice A ys.length c)
          have hu3 := R.out.1.boxed BX.out (.bool false) (.slice A ys.length c)
          exact ⟨false, A, c, ys, 0, rfl, hu3.below ((Below.refl _ _).alloc (Nat.le_refl _) _), ⟨R.out.2.1, by simp⟩, .inr (.inr ⟨by rw [← HNG.out, ← HT.out]; exact HO.out, by rw [← HT.out, ba_len]; exact ht4, rfl, HNG.out, by rw [← HT.out]; exact HV.out⟩), hb3.alloc hb3.size _⟩
set_option maxRecDepth 100000 in
set_option maxHeartbeats 6400000 in
theorem rparse_minus (s : ByteArray) (w : World) (hs : s.size ≤ maxLen) (hneg : neg s.data.toList = true) :
    Calls Tryd.prog 11 #[.string s] w (RetP s.data.toList w) := by
  obtain ⟨l, hl⟩ : ∃ l, l = s.data.toList := ⟨_, rfl⟩
  rw [← hl] at hneg ⊢
  obtain ⟨hR, hB⟩ := box1 w (.bool false) (.slice none 0 0) 24
  have HR := Lib.hid hR
  have HB := Lib.hid hB
  have HNG := Lib.hid hneg.symm
  obtain ⟨x1, x2, x3, x4, x5⟩ := hR
  have hs1 := neg_size (s := s) (by rw [← hl]; exact hneg)
  obtain ⟨t, hst⟩ : ∃ t, t = s.extract 1 s.size := ⟨_, rfl⟩
  have HST := Lib.hid hst
  have htl : t.data.toList = body l := by unfold body; rw [hneg, hst, cut_data, hl]; rfl
  have HT := Lib.hid htl
  have hms : t.size ≤ maxLen := by
    have h1 := ba_len t
    have h2 := body_len l
    rw [htl] at h1
    rw [hl, ba_len, ← hl] at h2
    omega
  unfold maxLen at hs
  have h0s : 0 < s.size := by omega
  have hsm : ((s[0]'h0s).toNat : Int) = 45 := by
    rw [hl] at hneg
    unfold neg at hneg
    rw [List.head?_eq_getElem?, ba_get h0s] at hneg
    simp at hneg
    rw [hneg]
    rfl
  have hts4 : t.size ≤ 9223372036854775807 := by unfold maxLen at hms; omega
  clear hB hl hneg hst htl
  by_cases h0 : 0 < t.size
  case neg =>
    have hts : t.size = 0 := by omega
    go_enter Tryd.func11, Tryd.ntmps11
    go_upto_region 5 with fail
    rw [← HST.out]
    go_wp2_with fail
    refine bodyPost_ret (v := .tuple #[.agg #[.bool false, .slice none 0 0], .int .i64 2]) (by simp [results, Tryd.results11, go_sem, x1, x2]) rfl ?_
    exact ⟨false, none, 0, [], 2, rfl, Us.nil _, ⟨canon_nil, by simp⟩, .inl ⟨by rw [← HNG.out, ← HT.out]; rw [ba_nil h0]; exact okNum_nil _, rfl, rfl, rfl⟩, HB.out⟩
  have hz0 : (((t.size : Nat) : Int) == 0) = false := by rw [beq_eq_false_iff_ne]; omega
  by_cases hle : lead t.data.toList = t.size
  case neg =>
    have hz : ¬ (((lead t.data.toList : Nat) : Int) = ((t.size : Nat) : Int)) := by omega
    have HLE := Lib.hid hle
    clear hle
    go_enter Tryd.func11, Tryd.ntmps11
    go_upto_region 5 with fail
    rw [← HST.out]
    go_wp2_with (go_at_call 16; go_loud (refine (rdigits_any t 0 _ hms (by omega) (by omega)).mono ?_; rintro e w1 ⟨rfl, b⟩; rw [show leadAt t.data.toList 0 = lead t.data.toList from by unfold leadAt; simp]; clear x1 x2 x3 x4 x5; have hb := Lib.hid b; obtain ⟨x1, x2, x3, x4, x5⟩ := HR.out.below b; clear b))
    all_goals
     obtain ⟨e1, e2, _, _, _⟩ := (HR.out.below hb.out).set (.bool false) (.slice none 0 0)
     refine bodyPost_ret (v := .tuple #[.agg #[.bool false, .slice none 0 0], .int .i64 2]) (by simp [results, Tryd.results11, go_sem, e1, e2]) rfl ?_
     exact ⟨false, none, 0, [], 2, rfl, Us.nil _, ⟨canon_nil, by simp⟩, .inl ⟨by rw [← HNG.out, ← HT.out]; exact okNum_lead (by rw [ba_len]; exact HLE.out), rfl, rfl, rfl⟩, ((HB.out.trans (hb.out.mono HB.out.size)).setCell (p := ⟨w.heap.size, 0, none⟩) (Nat.le_refl _) _).setCell (p := ⟨w.heap.size, 1, none⟩) (Nat.le_refl _) _⟩
  have hle2 : lead t.data.toList = t.data.toList.length := by rw [ba_len]; exact hle
  have HLE := Lib.hid hle2
  have HLZ := Lib.hid (show ((lead t.data.toList : Nat) : Int) = ((t.size : Nat) : Int) by omega)
  clear hle hle2
  have HH := Lib.hid (show t.data.toList.head? = some (t[0]'h0) by rw [List.head?_eq_getElem?, ba_get h0])
  obtain ⟨y, hy⟩ : ∃ y, y = (t[0]'h0).toNat := ⟨_, rfl⟩
  have HY := Lib.hid hy
  clear hy
  have HYR := Lib.hid (fun (e : y = 48) => show t.data.toList.head? = some 48 by rw [HH.out]; congr 1; exact UInt8.toNat_inj.1 (by rw [← HY.out, e]; rfl))
  have HYN := Lib.hid (fun (e : y ≠ 48) => show t.data.toList.head? ≠ some 48 by rw [HH.out]; intro e2; apply e; rw [HY.out, Option.some.inj e2]; rfl)
  have hok : (y = 48 ∧ True) ∨ (okNum t.data.toList true = true ∧ (y = 48 → ¬ True)) := by
    by_cases h48 : y = 48
    · exact .inl ⟨h48, trivial⟩
    · exact .inr ⟨okNum_other (ba_ne h0) (HYN.out h48) HLE.out, fun h => absurd h h48⟩
  rcases hok with ⟨h48, h1⟩ | ⟨hok, h1⟩
  · have hyz : ((t[0]'h0).toNat : Int) = 48 := by rw [← HY.out]; omega
    go_enter Tryd.func11, Tryd.ntmps11
    go_upto_region 5 with fail
    rw [← HST.out]
    go_wp2_with (go_at_call 16; go_loud (refine (rdigits_any t 0 _ hms (by omega) (by omega)).mono ?_; rintro e w1 ⟨rfl, b⟩; rw [show leadAt t.data.toList 0 = lead t.data.toList from by unfold leadAt; simp]; rw [HLZ.out]; clear x1 x2 x3 x4 x5; have hb := Lib.hid b; obtain ⟨x1, x2, x3, x4, x5⟩ := HR.out.below b; clear b))
    all_goals
     obtain ⟨e1, e2, _, _, _⟩ := (HR.out.below hb.out).set (.bool false) (.slice none 0 0)
     refine bodyPost_ret (v := .tuple #[.agg #[.bool false, .slice none 0 0], .int .i64 2]) (by simp [results, Tryd.results11, go_sem, e1, e2]) rfl ?_
     exact ⟨false, none, 0, [], 2, rfl, Us.nil _, ⟨canon_nil, by simp⟩, .inl ⟨by rw [← HNG.out, ← HT.out]; exact okNum_nought (HYR.out h48) (.inr rfl), rfl, rfl, rfl⟩, ((HB.out.trans (hb.out.mono HB.out.size)).setCell (p := ⟨w.heap.size, 0, none⟩) (Nat.le_refl _) _).setCell (p := ⟨w.heap.size, 1, none⟩) (Nat.le_refl _) _⟩
  have HO := Lib.hid hok
  clear hok
  have hyz : ¬ ((t[0]'h0).toNat : Int) = 48 := by
    rw [← HY.out]
    intro e
    exact h1 (by omega) trivial
  clear h1
  by_cases h4 : 400 < t.size
  · skip
    go_enter Tryd.func11, Tryd.ntmps11
    go_upto_region 5 with fail
    rw [← HST.out]
    go_wp2_with (go_at_call 16; go_loud (refine (rdigits_any t 0 _ hms (by omega) (by omega)).mono ?_; rintro e w1 ⟨rfl, b⟩; rw [show leadAt t.data.toList 0 = lead t.data.toList from by unfold leadAt; simp]; rw [HLZ.out]; clear x1 x2 x3 x4 x5; have hb := Lib.hid b; obtain ⟨x1, x2, x3, x4, x5⟩ := HR.out.below b; clear b))
    obtain ⟨e1, e2, _, _, _⟩ := (HR.out.below hb.out).set (.bool false) (.slice none 0 0)
    refine bodyPost_ret (v := .tuple #[.agg #[.bool false, .slice none 0 0], .int .i64 4]) (by simp [results, Tryd.results11, go_sem, e1, e2]) rfl ?_
    have hbb := HB.out.trans (hb.out.mono HB.out.size)
    exact ⟨false, none, 0, [], 4, rfl, Us.nil _, ⟨canon_nil, by simp⟩, .inr (.inl ⟨by rw [← HNG.out, ← HT.out]; exact HO.out, by rw [← HT.out, ba_len]; exact h4, rfl, rfl, rfl⟩), (hbb.setCell (p := ⟨w.heap.size, 0, none⟩) (Nat.le_refl _) _).setCell (p := ⟨w.heap.size, 1, none⟩) (Nat.le_refl _) _⟩
  have HAll := Lib.hid (isNum_all (okNum_isd HO.out))
  have ht4 : t.size ≤ 400 := by omega
  clear h4
  go_enter Tryd.func11, Tryd.ntmps11
  go_upto_region 5 with fail
  rw [← HST.out]
  go_wp2_with (go_at_call 16; go_loud (refine (rdigits_any t 0 _ hms (by omega) (by omega)).mono ?_; rintro e w1 ⟨rfl, b⟩; rw [show leadAt t.data.toList 0 = lead t.data.toList from by unfold leadAt; simp]; rw [HLZ.out]; clear x1 x2 x3 x4 x5; have hb := Lib.hid b; obtain ⟨x1, x2, x3, x4, x5⟩ := HR.out.below b; clear b))
  have hbb := HB.out.trans (hb.out.mono HB.out.size)
  have R0 := Lib.hid (show RParseRel t w 0 none 0 [] w1 from ⟨Us.nil _, canon_nil, by simp [num, val], Nat.le_refl _, hbb⟩)
  have BX0 := Lib.hid (HR.out.below hb.out)
  clear hbb x1 x2 x3 x4 x5
  go_loopw [6, 7] (fun lv iv wr => ∃ (i : Nat) (A : Option Addr) (c : Nat) (ys : List Nat), i ≤ t.size ∧ iv = .int .i64 i ∧ lv = .slice A ys.length c ∧ RParseRel t w i A c ys wr ∧ Box wr w.heap.size (.bool false) (.slice none 0 0)) (fun _ iv _ => t.size - (intOf iv).toNat)
  case atStart => exact ⟨0, none, 0, [], Nat.zero_le _, rfl, rfl, R0.out, BX0.out⟩
  case round =>
    obtain ⟨i, A, c, ys, hi, rfl, rfl, hRr, hBx⟩ := hrel
    have R := Lib.hid hRr
    have BX := Lib.hid hBx
    have hyl := hRr.2.2.2.1
    have hcap := hRr.1.cap
    clear R0 BX0 hRr hBx
    by_cases hlt : i < t.size
    · obtain ⟨d, hd, hbd⟩ := isd_iff.1 (HAll.out _ (List.mem_of_getElem? (ba_get hlt)))
      have HG := Lib.hid (show t.data.toList[i]? = some (dig d) by rw [ba_get hlt, hbd])
      have hti : ((t[i]'hlt).toNat : Int) = 48 + (d : Int) := by rw [hbd, dig_nat hd]; omega
      have hdz := Lib.hid (show (48 + (d : Int) - 48) = (d : Int) by omega)
      clear hbd
      go_wp2_with (go_at_call 25; rw [hdz.out]; go_loud (refine (rmul_any _ _ ys 10 d _ R.out.1 (by omega) (by omega) (by omega)).mono ?_; rintro e w2 ⟨A2, c2, r2, rfl, q, k2, v2, b2⟩; have RN := Lib.hid (R.out.next hlt hd HG.out HAll.out q k2 v2 b2); have BN := Lib.hid (BX.out.below b2); clear q k2 v2 b2))
      go_roundw
      case rel => exact ⟨i + 1, A2, c2, r2, by omega, by go_num, rfl, RN.out, BN.out⟩
      case measure => simp [intOf]; omega
    · obtain rfl : i = t.size := by omega
      have HV := Lib.hid R.out.last
      obtain ⟨x1, x2, x3, x4, x5⟩ := BX.out
      have hbw := R.out.2.2.2.2
      have BWR := Lib.hid hbw
      have hbs := hbw.size
      clear hbw
      have HU := Lib.hid (R.out.1.below ((Below.refl wr.heap.size wr).alloc (Nat.le_refl _) (.cells #[.bool false, .slice A ys.length c] 24)))
      have hbx := BX.out.alloc (.cells #[.bool false, .slice A ys.length c] 24)
      have HBX := Lib.hid hbx
      clear hbx
      go_wp2_with (go_at_call 17; go_loud (refine (rminus_any false A c ys _ HU.out (by omega)).mono ?_; rintro e w3 ⟨A3, c3, s3, r3, rfl, q3, k3, v3, b3⟩; clear x1 x2 x3 x4 x5; obtain ⟨x1, x2, x3, x4, x5⟩ := HBX.out.below b3; have Q := Lib.hid (And.intro q3 (And.intro k3 (And.intro v3 b3))); clear q3 k3 v3 b3))
      have hX3 := HBX.out.below Q.out.2.2.2
      obtain ⟨e1, e2, _, _, _⟩ := hX3.set (.bool s3) (.slice A3 r3.length c3)
      refine bodyPost_ret (v := .tuple #[.agg #[.bool s3, .slice A3 r3.length c3], .int .i64 0]) (by simp [results, Tryd.results11, go_sem, e1, e2]) rfl ?_
      have hb3 := BWR.out.alloc BWR.out.size (.cells #[.bool false, .slice A ys.length c] 24)
      have hb4 := hb3.trans (Q.out.2.2.2.mono hb3.size)
      have hv3 := ival_minus (n := val ys) (by rw [Q.out.2.2.1]; unfold ival; simp) (by rw [HV.out]; exact okNum_pos HO.out)
      exact ⟨s3, A3, c3, r3, 0, rfl, Q.out.1.boxed hX3 _ _, Q.out.2.1, .inr (.inr ⟨by rw [← HNG.out, ← HT.out]; exact HO.out, by rw [← HT.out, ba_len]; exact ht4, rfl, hv3.1.trans HNG.out, by rw [← HT.out, hv3.2]; exact HV.out⟩), (hb4.setCell (p := ⟨w.heap.size, 0, none⟩) (Nat.le_refl _) _).setCell (p := ⟨w.heap.size, 1, none⟩) (Nat.le_refl _) _⟩
theorem rparse_any (s : ByteArray) (w : World) (hs : s.size ≤ maxLen) :
    Calls Tryd.prog 11 #[.string s] w (RetP s.data.toList w) := by
  cases h : neg s.data.toList with
  | true => exact rparse_minus s w hs h
  | false => exact rparse_plain s w hs h
end Go.Proofs.YteekijmhghokkaaDoor
