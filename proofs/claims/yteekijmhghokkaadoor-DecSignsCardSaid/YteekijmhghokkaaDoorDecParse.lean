/-
  dec.Parse: the number of a text.
-/
import Derived.Test.YteekijmhghokkaaDoorDecLimbs
import Derived.Test.YteekijmhghokkaaDoorNumbA

namespace Go.Proofs.YteekijmhghokkaaDoor
set_option linter.unusedVariables false
set_option linter.unusedSimpArgs false
open Go.RowKit Num Digs
/-- What the document says of a text. -/
def ParseIs (l : List UInt8) (s : Bool) (rs : List Nat) (er : Int) : Prop :=
  (okNum (body l) (neg l) = false ∧ er = 2 ∧ s = false ∧ rs = []) ∨
  (okNum (body l) (neg l) = true ∧ 400 < (body l).length ∧ er = 4 ∧ s = false ∧ rs = []) ∨
  (okNum (body l) (neg l) = true ∧ (body l).length ≤ 400 ∧ er = 0 ∧ s = neg l ∧ val rs = num (body l))
/-- What Parse leaves. -/
def RetP (l : List UInt8) (w : World) (e : Ending) (w' : World) : Prop :=
  ∃ s A c rs er, e = .returned (.tuple #[.agg #[.bool s, .slice A rs.length c], .int .i64 er]) ∧ Us w' A c rs ∧ CanonI s rs ∧ ParseIs l s rs er ∧ Below w.heap.size w w'
theorem okNum_isd {l : List UInt8} {n : Bool} (h : okNum l n = true) : IsNum l := by
  unfold okNum at h
  split at h
  · left; assumption
  · simp at h
    obtain ⟨h1, h2, h3⟩ := h
    right
    have h4 := lead_all.1 h3
    cases l with
    | nil => exact absurd rfl h1
    | cons x r =>
      obtain ⟨d, hd, hx⟩ := isd_iff.1 (h4 x (by simp))
      refine ⟨d, r, by rw [hx], ?_, hd, fun b hb => h4 b (by simp [hb])⟩
      rcases Nat.eq_zero_or_pos d with h0 | h0
      · subst h0
        exact absurd (by rw [hx]; rfl) h2
      · exact h0
theorem isNum_all {l : List UInt8} (h : IsNum l) : ∀ b ∈ l, isd b = true := by
  rcases h with rfl | ⟨d, r, rfl, h0, h1, hr⟩
  · intro b hb; simp at hb; subst hb; rfl
  · intro b hb
    rcases List.mem_cons.1 hb with rfl | hb
    · exact isd_dig h1
    · exact hr b hb
theorem okNum_pos {l : List UInt8} (h : okNum l true = true) : 0 < num l := by
  have h1 := okNum_isd h
  rcases h1 with rfl | ⟨d, r, rfl, h0, h1, hr⟩
  · simp [okNum] at h
  · have := num_cons_ge r d h0 h1
    have h3 : 0 < 10 ^ r.length := Nat.pow_pos (by decide)
    omega
theorem isNum_ok {l : List UInt8} {n : Bool} (h : IsNum l) (hn : n = true → l ≠ [48]) : okNum l n = true := by
  unfold okNum
  by_cases h0 : l = [48]
  · rw [if_pos h0]
    cases n
    · rfl
    · exact absurd h0 (hn rfl)
  · rw [if_neg h0]
    have ha := isNum_all h
    rcases h with rfl | ⟨d, r, rfl, hd, h1, hr⟩
    · exact absurd rfl h0
    · refine decide_eq_true ⟨by simp, ?_, lead_all.2 ha⟩
      intro e
      simp at e
      have := dig_inj h1 (by decide) (show dig d = dig 0 from e)
      omega
theorem body_len (l : List UInt8) : (body l).length ≤ l.length := by
  unfold body
  split
  · rw [List.length_tail]; omega
  · exact Nat.le_refl _
set_option maxRecDepth 100000 in
set_option maxHeartbeats 3200000 in
theorem parse_any (s : ByteArray) (w : World) (hs : s.size ≤ maxLen) :
    Calls Tryd.prog 10 #[.string s] w (RetP s.data.toList w) := by
  obtain ⟨l, hl⟩ : ∃ l, l = s.data.toList := ⟨_, rfl⟩
  obtain ⟨hR, hB⟩ := box1 w (.bool false) (.slice none 0 0) 24
  have HR := Lib.hid hR
  have HB := Lib.hid hB
  have hms := hs
  unfold maxLen at hs
  have hbl := body_len l
  rw [hl, ba_len, ← hl] at hbl
  have HL := Lib.hid hl
  obtain ⟨n, hn⟩ : ∃ n, n = neg l := ⟨_, rfl⟩
  have HNG := Lib.hid hn
  have C1 := Lib.hid (cutp_any s (w.alloc (.cells #[.bool false, .slice none 0 0] 24)) hms)
  rw [← hl] at C1 ⊢
  rw [← hn] at C1
  obtain ⟨x1, x2, x3, x4, x5⟩ := hR
  have hss : ∀ t : ByteArray, t.data.toList = body l → t.size ≤ maxLen := fun t ht => by
    have := ba_len t
    rw [ht] at this
    unfold maxLen
    omega
  have HSS := Lib.hid hss
  clear hB hl hn hss
  cases hok : okNum (body l) n with
  | false =>
    have HO := Lib.hid hok
    clear hok
    go_enter Tryd.func10, Tryd.ntmps10
    go_wp2_with (first
      | (go_at_call 22; go_loud (refine C1.out.mono ?_; rintro e w1 ⟨t, rfl, ht, rfl⟩; have HT := Lib.hid ht; clear ht))
      | (go_at_call 23; go_loud (refine (dright_any t n _ (HSS.out t HT.out)).mono ?_; rintro e w2 ⟨rfl, b⟩; rw [HT.out, HO.out]; clear x1 x2 x3 x4 x5; have hb := Lib.hid b; obtain ⟨x1, x2, x3, x4, x5⟩ := HR.out.below b; clear b)))
    obtain ⟨e1, e2, _, _, _⟩ := (HR.out.below hb.out).set (.bool false) (.slice none 0 0)
    refine bodyPost_ret (v := .tuple #[.agg #[.bool false, .slice none 0 0], .int .i64 2]) (by simp [results, Tryd.results10, go_sem, e1, e2]) rfl ?_
    have hbb := HB.out.trans (hb.out.mono HB.out.size)
    exact ⟨false, none, 0, [], 2, rfl, Us.nil _, ⟨canon_nil, by simp⟩, .inl ⟨by rw [← HNG.out]; exact HO.out, rfl, rfl, rfl⟩, (hbb.setCell (p := ⟨w.heap.size, 0, none⟩) (Nat.le_refl _) _).setCell (p := ⟨w.heap.size, 1, none⟩) (Nat.le_refl _) _⟩
  | true =>
    have HO := Lib.hid hok
    clear hok
    by_cases h4 : 400 < (body l).length
    · have H4 := Lib.hid h4
      clear h4
      go_enter Tryd.func10, Tryd.ntmps10
      go_wp2_with (first
        | (go_at_call 22; go_loud (refine C1.out.mono ?_; rintro e w1 ⟨t, rfl, ht, rfl⟩; have HT := Lib.hid ht; have ht4 : 400 < t.size := (by rw [← ba_len, ht]; exact H4.out); clear ht))
        | (go_at_call 23; go_loud (refine (dright_any t n _ (HSS.out t HT.out)).mono ?_; rintro e w2 ⟨rfl, b⟩; rw [HT.out, HO.out]; clear x1 x2 x3 x4 x5; have hb := Lib.hid b; obtain ⟨x1, x2, x3, x4, x5⟩ := HR.out.below b; clear b)))
      obtain ⟨e1, e2, _, _, _⟩ := (HR.out.below hb.out).set (.bool false) (.slice none 0 0)
      refine bodyPost_ret (v := .tuple #[.agg #[.bool false, .slice none 0 0], .int .i64 4]) (by simp [results, Tryd.results10, go_sem, e1, e2]) rfl ?_
      have hbb := HB.out.trans (hb.out.mono HB.out.size)
      exact ⟨false, none, 0, [], 4, rfl, Us.nil _, ⟨canon_nil, by simp⟩, .inr (.inl ⟨by rw [← HNG.out]; exact HO.out, H4.out, rfl, rfl, rfl⟩), (hbb.setCell (p := ⟨w.heap.size, 0, none⟩) (Nat.le_refl _) _).setCell (p := ⟨w.heap.size, 1, none⟩) (Nat.le_refl _) _⟩
    · have H4 := Lib.hid (Nat.le_of_not_lt h4)
      clear h4
      go_enter Tryd.func10, Tryd.ntmps10
      go_wp2_with (first
        | (go_at_call 22; go_loud (refine C1.out.mono ?_; rintro e w1 ⟨t, rfl, ht, rfl⟩; have HT := Lib.hid ht; have ht4 : t.size ≤ 400 := (by rw [← ba_len, ht]; exact H4.out); clear ht))
        | (go_at_call 23; go_loud (refine (dright_any t n _ (HSS.out t HT.out)).mono ?_; rintro e w2 ⟨rfl, b⟩; rw [HT.out, HO.out]; clear x1 x2 x3 x4 x5; have hb := Lib.hid b; obtain ⟨x1, x2, x3, x4, x5⟩ := HR.out.below b; clear b))
        | (go_at_call 24; go_loud (refine (limbs_any t _ (by rw [HT.out]; exact isNum_all (okNum_isd HO.out)) (by omega)).mono ?_; rintro e w3 ⟨A3, c3, r3, rfl, q3, k3, v3, b3⟩; rw [HT.out] at v3; have hcap3 := q3.cap; clear x1 x2 x3 x4 x5; obtain ⟨x1, x2, x3, x4, x5⟩ := (HR.out.below hb.out).below b3; have Q := Lib.hid (And.intro q3 (And.intro k3 (And.intro v3 b3))); clear q3 k3 v3 b3)))
      have hX3 := (HR.out.below hb.out).below Q.out.2.2.2
      obtain ⟨e1, e2, _, _, _⟩ := hX3.set (.bool n) (.slice A3 r3.length c3)
      refine bodyPost_ret (v := .tuple #[.agg #[.bool n, .slice A3 r3.length c3], .int .i64 0]) (by simp [results, Tryd.results10, go_sem, e1, e2]) rfl ?_
      have hbb := HB.out.trans (hb.out.mono HB.out.size)
      have hb3 := hbb.trans (Q.out.2.2.2.mono hbb.size)
      refine ⟨n, A3, c3, r3, 0, rfl, Q.out.1.boxed hX3 _ _, ⟨Q.out.2.1, fun hn he => ?_⟩, .inr (.inr ⟨by rw [← HNG.out]; exact HO.out, H4.out, rfl, HNG.out, Q.out.2.2.1⟩), (hb3.setCell (p := ⟨w.heap.size, 0, none⟩) (Nat.le_refl _) _).setCell (p := ⟨w.heap.size, 1, none⟩) (Nat.le_refl _) _⟩
      have h1 := HO.out
      rw [hn] at h1
      have h2 := okNum_pos h1
      have h3 := Q.out.2.2.1
      rw [he] at h3
      simp [val] at h3
      omega
end Go.Proofs.YteekijmhghokkaaDoor
