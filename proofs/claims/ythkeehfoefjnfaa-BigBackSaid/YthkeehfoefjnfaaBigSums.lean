/-
  BigSums holds of every input.
-/
import Derived.Test.YthkeehfoefjnfaaAlive2
namespace Go.Proofs.Ythkeehfoefjnfaa
set_option linter.unusedVariables false
set_option linter.unusedSimpArgs false
open Go.RowKit Num

/-- Slices and boxes that stand as they stood. -/
def Sb (w W : World) (l : List (Option Addr × Nat × List Nat)) (bs : List (Nat × Value × Value)) : Prop := St w W l ∧ ∀ t ∈ bs, Box W t.1 t.2.1 t.2.2
theorem Sb.get {w W : World} {l : List (Option Addr × Nat × List Nat)} {bs : List (Nat × Value × Value)} (s : Sb w W l bs) {A : Option Addr} {c : Nat} {xs : List Nat} (h : (A, c, xs) ∈ l) : Us W A c xs := s.1.2 _ h
theorem Sb.box {w W : World} {l : List (Option Addr × Nat × List Nat)} {bs : List (Nat × Value × Value)} (s : Sb w W l bs) {g : Nat} {x y : Value} (h : (g, x, y) ∈ bs) : Box W g x y := s.2 _ h
theorem Sb.step {w W W' : World} {l : List (Option Addr × Nat × List Nat)} {bs : List (Nat × Value × Value)} (s : Sb w W l bs) (b : Below W.heap.size W W') : Sb w W' l bs :=
  ⟨s.1.step b, fun t ht => (s.2 t ht).below b⟩
theorem Sb.call {w W W' : World} {l : List (Option Addr × Nat × List Nat)} {bs : List (Nat × Value × Value)} (s : Sb w W l bs) (b : Below W.heap.size W W') {A : Option Addr} {c : Nat} {xs : List Nat} (h : Us W' A c xs) : Sb w W' ((A, c, xs) :: l) bs :=
  ⟨s.1.call b h, fun t ht => (s.2 t ht).below b⟩
theorem Sb.drew {w W : World} {l : List (Option Addr × Nat × List Nat)} {bs : List (Nat × Value × Value)} (s : Sb w W l bs) : Sb w W.drew l bs := s.step (Below.drew' (Below.refl _ _))
theorem Sb.held2 {w W : World} {l : List (Option Addr × Nat × List Nat)} {g h : Nat} {x y u v : Value} (s : Sb w W l [(g, x, y), (h, u, v)]) :
    W.cell? ⟨g, 0, none⟩ = some x ∧ W.cell? ⟨g, 1, none⟩ = some y ∧ W.cell? ⟨h, 0, none⟩ = some u ∧ W.cell? ⟨h, 1, none⟩ = some v :=
  ⟨(s.box (by simp : (g, x, y) ∈ _)).1, (s.box (by simp : (g, x, y) ∈ _)).2.1, (s.box (by simp : (h, u, v) ∈ _)).1, (s.box (by simp : (h, u, v) ∈ _)).2.1⟩
theorem abs_sub {a b : Int} {k : Nat} (ha : a.natAbs < 4294967296 ^ k) (hb : b.natAbs < 4294967296 ^ k) : (a - b).natAbs < 4294967296 ^ (k + 1) := by
  rw [Nat.pow_succ]
  omega
theorem abs_shr {a : Int} {k : Nat} (ha : a.natAbs < 4294967296 ^ k) (n : Int) : (shrI a n).natAbs < 4294967296 ^ k := by
  refine Nat.lt_of_le_of_lt ?_ ha
  unfold shrI
  split
  · exact Int.natAbs_ediv_le_natAbs _ _
  · exact Nat.zero_le _
theorem right_canon {s : Bool} {xs : List Nat} (h : rightI s xs = true) : CanonI s xs := by
  unfold rightI at h
  rw [Bool.and_eq_true] at h
  refine ⟨?_, fun hs e => ?_⟩
  · have h1 := h.1
    simp [rightB] at h1
    unfold Canon
    rw [List.getLast?_eq_getElem?]
    intro e
    rcases h1 with rfl | h1
    · simp at e
    · rw [e] at h1
      exact h1 rfl
  · subst hs e
    simp at h
/-- At a law's beginning: both numbers in boxes. -/
theorem Sb.start {w : World} {A B : Option Addr} {c d : Nat} {xs ys : List Nat} (h : Us w A c xs) (k : Us w B d ys) (x y : Value) (z v : Value) (ty : TypeId) :
    Sb w ((w.alloc (.cells #[x, y] ty)).alloc (.cells #[z, v] ty)) [(B, d, ys), (A, c, xs)] [(w.heap.size, x, y), (w.heap.size + 1, z, v)] := by
  obtain ⟨h1, h2, h3⟩ := box2 w x y z v ty
  refine ⟨(((St.start w).add h).add k).step h3, fun t ht => ?_⟩
  rcases List.mem_cons.1 ht with rfl | ht
  · exact h1
  · rcases List.mem_cons.1 ht with rfl | ht
    · exact h2
    · cases ht

set_option maxRecDepth 100000 in
set_option maxHeartbeats 6400000 in
theorem bsums_main (s t : Bool) (A B : Option Addr) (c d : Nat) (xs ys : List Nat) (n : Int) (w : World) (h : Us w A c xs) (k : Us w B d ys) (hn : xs.length ≤ 60) (hm : ys.length ≤ 60) (hr : rightI s xs = true) (kr : rightI t ys = true) :
    Calls Try.prog 8 #[.agg #[.bool s, .slice A xs.length c], .agg #[.bool t, .slice B ys.length d], .int .i64 n] w fun e w' => e = .returned (.bool true) ∧ Below w.heap.size w w' := by
  have s0 := Sb.start h k (.bool s) (.slice A xs.length c) (.bool t) (.slice B ys.length d) 43
  have hd := h.1
  have hcap := h.cap
  have kd := k.1
  have kcap := k.cap
  have HX := Lib.hid (abs_of_len (s := s) hd hn)
  have HY := Lib.hid (abs_of_len (s := t) kd hm)
  have HC := Lib.hid (right_canon hr)
  have HD := Lib.hid (right_canon kr)
  have HR := Lib.hid hr
  have KR := Lib.hid kr
  obtain ⟨o, ho⟩ : ∃ o, o = ordI (ival s xs) (ival t ys) := ⟨_, rfl⟩
  have HO := Lib.hid ho
  clear h k hr kr ho
  go_enter Try.func8, Try.ntmps8
  go_wp2_with (first
    | (have _t := s0; go_at_call 34; clear _t; go_loud (refine (alive2_any _).mono ?_; rintro e w1 ⟨rfl, b⟩; have s1 := s0.step b; clear b s0; obtain ⟨x1, x2, z1, z2⟩ := s1.held2))
    | (have _t := s1; go_at_call 35; clear _t; go_loud (refine (great_no s _ _ _ _ hn).mono ?_; rintro e w2 ⟨rfl, b⟩; have s2 := s1.step b; clear b s1 x1 x2 z1 z2; obtain ⟨x1, x2, z1, z2⟩ := s2.held2))
    | (have _t := s2; go_at_call 35; clear _t; go_loud (refine (great_no t _ _ _ _ hm).mono ?_; rintro e w3 ⟨rfl, b⟩; have s3 := s2.step b; clear b s2 x1 x2 z1 z2; obtain ⟨x1, x2, z1, z2⟩ := s3.held2; have tok0 : True := trivial))
    | (have _t := tok0; go_at_call 41; clear _t tok0; go_loud (refine (rbright_any s _ _ xs _ (s3.get (by simp)) (by omega)).mono ?_; rintro e w4 ⟨rfl, b⟩; rw [HR.out]; have s4' := s3.step b; clear b s3 x1 x2 z1 z2; obtain ⟨x1, x2, z1, z2⟩ := s4'.held2))
    | (have _t := s4'; go_at_call 41; clear _t; go_loud (refine (rbright_any t _ _ ys _ (s4'.get (by simp)) (by omega)).mono ?_; rintro e w5 ⟨rfl, b⟩; rw [KR.out]; have s5' := s4'.step b; clear b s4' x1 x2 z1 z2)))
  have s4 := s5'.drew
  clear s5'
  go_region_held3 (fun w' => w'.cell? ⟨w.heap.size, 0, none⟩ = some (.bool s) ∧ w'.cell? ⟨w.heap.size, 1, none⟩ = some (.slice A xs.length c) ∧ w'.cell? ⟨w.heap.size + 1, 0, none⟩ = some (.bool t) ∧ w'.cell? ⟨w.heap.size + 1, 1, none⟩ = some (.slice B ys.length d))
    (exact Sb.held2 (by assumption))
    (first
    | (have _t := s4; go_at_call 46; clear _t; go_loud (refine (badd_any s t _ _ _ _ xs ys _ (s4.get (by simp)) (s4.get (by simp)) (by omega) (by omega)).mono ?_; rintro e w4 ⟨A4, c4, g4, r4, rfl, q, k4, v4, b⟩; have d4 := q.1; have s5 := s4.call b q; clear s4 b q))
    | (have _t := s5; go_at_call 47; clear _t; go_loud (refine (rbadd_any s t _ _ _ _ xs ys _ (s5.get (by simp)) (s5.get (by simp)) (by omega) (by omega)).mono ?_; rintro e w5 ⟨A5, c5, g5, r5, rfl, q, k5, v5, b⟩; obtain ⟨rfl, rfl⟩ := uniqI d4 q.1 k4 k5 (v4.trans v5.symm); clear k5 v5; have s6 := s5.call b q; clear s5 b q))
    | (have _t := s6; go_at_call 38; clear _t; go_loud (refine (rbsame_any g4 g4 _ _ _ _ r4 r4 _ (s6.get (by simp)) (s6.get (by simp)) (by have := len_ival k4 v4 61 (abs_add (k := 60) HX.out HY.out); omega)).mono ?_; rintro e w6 ⟨rfl, b⟩; rw [decide_eq_true (show g4 = g4 ∧ r4 = r4 from ⟨rfl, rfl⟩)]; have s7 := s6.step b; clear s6 b))
    | (have _t := s7; go_at_call 48; clear _t; go_loud (refine (bsub_any s t _ _ _ _ xs ys _ (s7.get (by simp)) (s7.get (by simp)) (by omega) (by omega)).mono ?_; rintro e w7 ⟨A7, c7, g7, r7, rfl, q, k7, v7, b⟩; have d7 := q.1; have s8 := s7.call b q; clear s7 b q))
    | (have _t := s8; go_at_call 49; clear _t; go_loud (refine (rbsub_any s t _ _ _ _ xs ys _ (s8.get (by simp)) (s8.get (by simp)) (by omega) (by omega)).mono ?_; rintro e w8 ⟨A8, c8, g8, r8, rfl, q, k8, v8, b⟩; obtain ⟨rfl, rfl⟩ := uniqI d7 q.1 k7 k8 (v7.trans v8.symm); clear k8 v8; have s9 := s8.call b q; clear s8 b q))
    | (have _t := s9; go_at_call 38; clear _t; go_loud (refine (rbsame_any g7 g7 _ _ _ _ r7 r7 _ (s9.get (by simp)) (s9.get (by simp)) (by have := len_ival k7 v7 61 (abs_sub (k := 60) HX.out HY.out); omega)).mono ?_; rintro e w9 ⟨rfl, b⟩; rw [decide_eq_true (show g7 = g7 ∧ r7 = r7 from ⟨rfl, rfl⟩)]; have s10 := s9.step b; clear s9 b))
    | (have _t := s10; go_at_call 50; clear _t; go_loud (refine (minus_any s _ _ xs _ (s10.get (by simp)) (by omega)).mono ?_; rintro e w10 ⟨A10, c10, g10, r10, rfl, q, k10, v10, b⟩; have d10 := q.1; have s11 := s10.call b q; clear s10 b q))
    | (have _t := s11; go_at_call 51; clear _t; go_loud (refine (rminus_any s _ _ xs _ (s11.get (by simp)) (by omega)).mono ?_; rintro e w11 ⟨A11, c11, g11, r11, rfl, q, k11, v11, b⟩; obtain ⟨rfl, rfl⟩ := uniqI d10 q.1 k10 k11 (v10.trans v11.symm); clear k11 v11; have s12 := s11.call b q; clear s11 b q))
    | (have _t := s12; go_at_call 38; clear _t; go_loud (refine (rbsame_any g10 g10 _ _ _ _ r10 r10 _ (s12.get (by simp)) (s12.get (by simp)) (by have := len_neg hd k10 v10; omega)).mono ?_; rintro e w12 ⟨rfl, b⟩; rw [decide_eq_true (show g10 = g10 ∧ r10 = r10 from ⟨rfl, rfl⟩)]; have s13 := s12.step b; clear s12 b))
    | (have _t := s13; go_at_call 52; clear _t; go_loud (refine (bcmp_any s t _ _ _ _ xs ys _ (s13.get (by simp)) (s13.get (by simp)) (by omega) (by omega) HC.out HD.out).mono ?_; rintro e w13 ⟨rfl, b⟩; rw [← HO.out]; have s14 := s13.step b; clear s13 b))
    | (have _t := s14; go_at_call 53; clear _t; go_loud (refine (rbcmp_any s t _ _ _ _ xs ys _ (s14.get (by simp)) (s14.get (by simp)) (by omega) (by omega)).mono ?_; rintro e w14 ⟨rfl, b⟩; rw [← HO.out]; have s15 := s14.step b; clear s14 b))
    | (have _t := s15; go_at_call 54; clear _t; go_loud (refine (bshl_any s _ _ xs n _ (s15.get (by simp)) (by omega)).mono ?_; rintro e w15 ⟨A15, c15, g15, r15, rfl, q, k15, v15, b⟩; have d15 := q.1; have s16 := s15.call b q; clear s15 b q))
    | (have _t := s16; go_at_call 55; clear _t; go_loud (refine (rbshl_any s _ _ xs n _ (s16.get (by simp)) (by omega)).mono ?_; rintro e w16 ⟨A16, c16, g16, r16, rfl, q, k16, v16, b⟩; obtain ⟨rfl, rfl⟩ := uniqI d15 q.1 k15 k16 (v15.trans v16.symm); clear k16 v16; have s17 := s16.call b q; clear s16 b q))
    | (have _t := s17; go_at_call 38; clear _t; go_loud (refine (rbsame_any g15 g15 _ _ _ _ r15 r15 _ (s17.get (by simp)) (s17.get (by simp)) (by have := lenI_shl hd hn k15 v15; omega)).mono ?_; rintro e w17 ⟨rfl, b⟩; rw [decide_eq_true (show g15 = g15 ∧ r15 = r15 from ⟨rfl, rfl⟩)]; have s18 := s17.step b; clear s17 b))
    | (have _t := s18; go_at_call 56; clear _t; go_loud (refine (bshr_any s _ _ xs n _ (s18.get (by simp)) (by omega) HC.out).mono ?_; rintro e w18 ⟨A18, c18, g18, r18, rfl, q, k18, v18, b⟩; have d18 := q.1; have s19 := s18.call b q; clear s18 b q))
    | (have _t := s19; go_at_call 57; clear _t; go_loud (refine (rbshr_any s _ _ xs n _ (s19.get (by simp)) (by omega)).mono ?_; rintro e w19 ⟨A19, c19, g19, r19, rfl, q, k19, v19, b⟩; obtain ⟨rfl, rfl⟩ := uniqI d18 q.1 k18 k19 (v18.trans v19.symm); clear k19 v19; have s20 := s19.call b q; clear s19 b q))
    | (have _t := s20; go_at_call 38; clear _t; go_loud (refine (rbsame_any g18 g18 _ _ _ _ r18 r18 _ (s20.get (by simp)) (s20.get (by simp)) (by have := len_ival k18 v18 60 (abs_shr HX.out n); omega)).mono ?_; rintro e w20 ⟨rfl, b⟩; rw [decide_eq_true (show g18 = g18 ∧ r18 = r18 from ⟨rfl, rfl⟩)]; have s21 := s20.step b; clear s20 b)))
  go_wp2
  go_ret
  exact ⟨rfl, s21.1.1⟩

end Go.Proofs.Ythkeehfoefjnfaa
