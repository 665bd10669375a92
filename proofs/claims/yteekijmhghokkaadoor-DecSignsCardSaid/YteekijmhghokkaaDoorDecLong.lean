/-
  DecLong holds of every input: the walk.
-/
import Derived.Test.YteekijmhghokkaaDoorDecBack

namespace Go.Proofs.YteekijmhghokkaaDoor
set_option linter.unusedVariables false
set_option linter.unusedSimpArgs false
open Go.RowKit Num Digs
theorem made8 (n : Nat) : (madeCells (Value.cells (.int .u8 0)) (n * 1)).toList = (List.replicate n (0 : UInt8)).map u8v := by
  rw [Nat.mul_one]
  refine List.ext_getElem (by simp [madeCells]) fun i h1 h2 => ?_
  simp [madeCells, Value.cells, Nat.mod_one, u8v]
theorem OwB.made {w : World} {base g n : Nat} (h : w.ownsRow base 5 1 (.slice (some ⟨g, 0, none⟩) n n) n (madeCells (Value.cells (.int .u8 0)) (n * 1)).toList) : OwB w base (.slice (some ⟨g, 0, none⟩) n n) (List.replicate n 0) := by
  unfold OwB
  rw [List.length_replicate, ← made8]
  exact h
/-- The first i bytes are laid. -/
def LongRel (k : Nat) (D : UInt8) (w : World) (g i : Nat) (ys : List UInt8) (wr : World) : Prop :=
  OwB wr w.heap.size (.slice (some ⟨g, 0, none⟩) k k) ys ∧ ys.length = k ∧ (∀ j, j < i → ys[j]? = some D) ∧ Below w.heap.size w wr
theorem LongRel.next {k g i : Nat} {D : UInt8} {w wr : World} {ys : List UInt8} (h : LongRel k D w g i ys wr) (hi : i < k) : LongRel k D w g (i + 1) (ys.set i D) (wr.setCell ⟨g, i, none⟩ (.int .u8 (D.toNat : Int))) := by
  obtain ⟨h1, h2, h3, h4⟩ := h
  refine ⟨h1.set i D, by simpa using h2, fun j hj => ?_, h4.setCell (p := ⟨g, i, none⟩) h1.base _⟩
  rw [List.getElem?_set]
  by_cases e : i = j
  · subst e
    rw [if_pos rfl, if_pos (by omega)]
  · rw [if_neg e]
    exact h3 j (by omega)
theorem LongRel.done {k g : Nat} {D : UInt8} {w wr : World} {ys : List UInt8} (h : LongRel k D w g k ys wr) : ys = List.replicate k D := by
  obtain ⟨h1, h2, h3, h4⟩ := h
  refine List.ext_getElem? fun j => ?_
  rcases Nat.lt_or_ge j k with hj | hj
  · rw [h3 j hj, List.getElem?_replicate, if_pos hj]
  · rw [List.getElem?_eq_none (by omega), List.getElem?_eq_none (by simpa using hj)]
/-- A digit as often as told, behind a minus or not. -/
def rowL (s : Bool) (k d : Nat) : List UInt8 := if s then 45 :: List.replicate k (dig d) else List.replicate k (dig d)
theorem rep_isNum {k d : Nat} (hk : 0 < k) (h0 : 0 < d) (h1 : d < 10) : IsNum (List.replicate k (dig d)) := by
  obtain ⟨m, rfl⟩ : ∃ m, k = m + 1 := ⟨k - 1, by omega⟩
  right
  refine ⟨d, List.replicate m (dig d), by rw [List.replicate_succ], h0, h1, fun b hb => ?_⟩
  rw [(List.mem_replicate.1 hb).2]
  exact isd_dig h1
theorem rep_neg {k d : Nat} (hk : 0 < k) (h1 : d < 10) (s : Bool) : neg (rowL s k d) = s := by
  unfold rowL
  obtain ⟨m, rfl⟩ : ∃ m, k = m + 1 := ⟨k - 1, by omega⟩
  unfold neg
  cases s
  · refine decide_eq_false ?_
    simp only [Bool.false_eq_true, if_false, List.replicate_succ, List.head?_cons, Option.some.injEq]
    exact dig_ne_minus h1
  · rfl
theorem rep_body {k d : Nat} (hk : 0 < k) (h1 : d < 10) (s : Bool) : body (rowL s k d) = List.replicate k (dig d) := by
  unfold body
  rw [rep_neg hk h1 s]
  unfold rowL
  cases s <;> rfl
theorem rep_ok {k d : Nat} (hk : 0 < k) (h0 : 0 < d) (h1 : d < 10) (s : Bool) : okNum (List.replicate k (dig d)) s = true := by
  refine isNum_ok (rep_isNum hk h0 h1) (fun _ e => ?_)
  obtain ⟨m, rfl⟩ : ∃ m, k = m + 1 := ⟨k - 1, by omega⟩
  rw [List.replicate_succ] at e
  have := dig_inj h1 (by decide) (show dig d = dig 0 from (List.cons.inj e).1)
  omega
/-- What is told of a row of one digit. -/
theorem rep_is {k d : Nat} (hk : 0 < k) (h0 : 0 < d) (h1 : d < 10) {s t : Bool} {rs : List Nat} {er : Int} {l : List UInt8} (hl : l = rowL s k d) (h : ParseIs l t rs er) :
    (400 < k → er = 4 ∧ rs = []) ∧ (k ≤ 400 → er = 0 ∧ t = s ∧ text t (val rs) = l) := by
  have h2 := h
  unfold ParseIs at h
  rw [hl, rep_body hk h1, rep_neg hk h1, rep_ok hk h0 h1 s, List.length_replicate] at h
  rcases h with ⟨h, _⟩ | ⟨_, h3, h4, h5, h6⟩ | ⟨_, h3, h4, h5, h6⟩
  · cases h
  · exact ⟨fun _ => ⟨h4, h6⟩, fun h => by omega⟩
  · refine ⟨fun h => by omega, fun _ => ⟨h4, h5, ?_⟩⟩
    rw [h4] at h2
    exact h2.text
set_option maxRecDepth 100000 in
set_option maxHeartbeats 6400000 in
theorem declong_any (n d : Int) (s : Bool) (w : World) (n0 : 0 ≤ n) (n1 : n ≤ 65535) (d0 : 0 ≤ d) (d1 : d ≤ 255) :
    Calls Tryd.prog 5 #[.int .u16 n, .int .u8 d, .bool s] w fun e w' => e = .returned (.bool true) ∧ Below w.heap.size w w' := by
  obtain ⟨i0, hi, hz0, hz1, hz2⟩ := info_parts Tryd.info8
  have HI := Lib.hid (And.intro hi (And.intro hz0 (And.intro hz1 hz2)))
  obtain ⟨k, hk⟩ : ∃ k : Nat, (k : Int) = 1 + n % 450 := ⟨(1 + n % 450).toNat, by omega⟩
  obtain ⟨f, hf⟩ : ∃ f : Nat, (f : Int) = 1 + d % 9 := ⟨(1 + d % 9).toNat, by omega⟩
  have hkl : 0 < k ∧ k ≤ 450 := by omega
  have hfl : 0 < f ∧ f < 10 := by omega
  have HK := Lib.hid hk
  have HF := Lib.hid (show 49 + d % 9 = ((dig f).toNat : Int) by rw [dig_nat hfl.2]; omega)
  clear hi hz0 hz1 hz2 hk hf
  have s0 : Sb w w [] [] := ⟨St.start w, fun t ht => by cases ht⟩
  go_enter Tryd.func5, Tryd.ntmps5
  go_upto_region 4 with (first
    | (have _t := s0; go_at_call 7; clear _t; go_loud (refine (alive3_any _).mono ?_; rintro e w1 ⟨rfl, b⟩; have s1 := s0.step b; clear b s0)))
  rw [← HK.out]
  have hb0 := Lib.hid s1.1.1
  clear s1
  have hb0s := hb0.out.size
  go_wp2_with (at_make; go_loud (refine wpList_make_full _ rfl _ _ 36 rfl w.heap.size 5 i0 _ 1 Tryd.underlying36 HI.out.1 HI.out.2.1 HI.out.2.2.1 .i64 .i64 _ _ k rfl rfl (by omega) (by omega) (by rw [HI.out.2.2.2]; omega) (by unfold maxLen; omega) hb0s ?_; intro w2 hown2 hgrow2))
  have R0 := Lib.hid (show LongRel k (dig f) w w1.heap.size 0 (List.replicate k 0) w2 from ⟨OwB.made hown2, by simp, fun j hj => by omega, hb0.out.grown hgrow2 hb0s (fun k hk => by cases hk)⟩)
  clear hown2 hgrow2
  generalize w1.heap.size = g at R0 hb0s ⊢
  go_loopw [9] (fun iv wr => ∃ (i : Nat) (ys : List UInt8), i ≤ k ∧ iv = .int .i64 i ∧ LongRel k (dig f) w g i ys wr) (fun iv _ => k - (intOf iv).toNat)
  case atStart => exact ⟨0, _, Nat.zero_le _, rfl, R0.out⟩
  case round =>
    obtain ⟨i, ys, hi, rfl, hR⟩ := hrel
    have R := Lib.hid hR
    clear hR R0
    by_cases hlt : i < k
    · obtain ⟨y, hy⟩ : ∃ y, ys[i]? = some y := ⟨_, List.getElem?_eq_getElem (by rw [R.out.2.1]; exact hlt)⟩
      have cy := R.out.1.cell hy
      have fy := R.out.1.free i
      have RN := Lib.hid (R.out.next hlt)
      clear hy
      go_wp2_with fail
      rw [HF.out]
      go_roundw
      case rel => exact ⟨i + 1, _, by omega, by go_num, RN.out⟩
      case measure => simp [intOf]; omega
    · obtain rfl : i = k := by omega
      have hys := R.out.done
      have hO := R.out.1
      rw [hys] at hO
      have hcv := conv_own hO
      have HBW := Lib.hid R.out.2.2.2
      obtain ⟨t, ht⟩ : ∃ t : ByteArray, t = ⟨(List.replicate i (dig f)).toArray⟩ := ⟨_, rfl⟩
      rw [← ht] at hcv
      have htl : t.data.toList = List.replicate i (dig f) := by rw [ht]
      have hts : t.size = i := by rw [← ba_len, htl]; simp
      obtain ⟨l, hl⟩ : ∃ l, l = rowL s i f := ⟨_, rfl⟩
      have HL := Lib.hid hl
      have HT := Lib.hid htl
      clear hO hys R ht htl hl
      have S0 : Sb w wr [] [] := ⟨⟨HBW.out, fun u hu => by cases hu⟩, fun u hu => by cases hu⟩
      obtain ⟨q, hq1, hq2, hql⟩ : ∃ q : ByteArray, (s = true → q = ⟨#[45]⟩ ++ t) ∧ (s = false → q = t) ∧ q.data.toList = l := by
        cases s
        · exact ⟨t, fun e => by (cases e), fun _ => rfl, by rw [HT.out, HL.out]; rfl⟩
        · exact ⟨⟨#[45]⟩ ++ t, fun _ => rfl, fun e => by (cases e), by rw [ba_append, HT.out, HL.out]; rfl⟩
      have hqs : q.size ≤ maxLen := by
        rw [← ba_len, hql, HL.out]
        unfold maxLen rowL
        cases s <;> simp <;> omega
      cases s
      all_goals
        (first | have hq := hq1 rfl | have hq := hq2 rfl)
        clear hq1 hq2
        have HQ := Lib.hid (And.intro hq hql)
        clear hq hql
        rcases (show ((400 : Int) < (i : Int) ∧ 400 < i) ∨ (¬ (400 : Int) < (i : Int) ∧ i ≤ 400) by omega) with ⟨h4, h5a⟩ | ⟨h4, h5b⟩
      all_goals
        go_wp2_with (first
          | (have _t := S0; have _u := h5a; go_at_call 10; clear _t _u; rw [← HQ.out.1]; go_loud (refine (parse_any q _ hqs).mono ?_; rintro e w5 ⟨g5, A5, c5, r5, e5, rfl, q5, k5, p5, b⟩; have hl5 := ParseIs.few p5 k5.1; rw [HQ.out.2] at p5; obtain ⟨p6, p7⟩ := rep_is hkl.1 hfl.1 hfl.2 HL.out p5; clear p5; obtain ⟨rfl, rfl⟩ := p6 h5a; clear p6 p7; have s1 := (S0.call b q5).more (.bool g5) (.slice A5 0 c5) 24; clear b S0 q5 k5; obtain ⟨x1, x2⟩ := s1.held1))
          | (have _t := S0; have _u := h5b; go_at_call 10; clear _t _u; rw [← HQ.out.1]; go_loud (refine (parse_any q _ hqs).mono ?_; rintro e w5 ⟨g5, A5, c5, r5, e5, rfl, q5, k5, p5, b⟩; have hl5 := ParseIs.few p5 k5.1; rw [HQ.out.2] at p5; obtain ⟨p6, p7⟩ := rep_is hkl.1 hfl.1 hfl.2 HL.out p5; clear p5; obtain ⟨rfl, he, p8⟩ := p7 h5b; have HP := Lib.hid p8; clear p6 p7 p8; have s1 := (S0.call b q5).more (.bool g5) (.slice A5 r5.length c5) 24; subst he; clear b S0 q5 k5; obtain ⟨x1, x2⟩ := s1.held1))
          | (have _t := s1; go_at_call 12; clear _t; go_loud (refine (text_any _ _ _ r5 _ (s1.get (by simp)) (by omega)).mono ?_; rintro e w6 ⟨rfl, b⟩; rw [HP.out, ← ba_of HQ.out.2]; have s2 := s1.step b; clear b s1 x1 x2; obtain ⟨x1, x2⟩ := s2.held1)))
      all_goals
        go_ret
        first
          | exact ⟨rfl, s2.1.1⟩
          | exact ⟨rfl, s1.1.1⟩
end Go.Proofs.YteekijmhghokkaaDoor
