/-
  LimbSums holds of every input.
-/
import Derived.Test.YthkeehfoefjnfaaParts
namespace Go.Proofs.Ythkeehfoefjnfaa
set_option linter.unusedVariables false
set_option linter.unusedSimpArgs false
open Go.RowKit Num

def lebN (m n : Nat) : Bool := decide (n ≤ m)
theorem RetS.all {m n : Nat} {w : World} {e : Ending} {w' : World} (h : RetS m n w e w') :
    ∃ A c rs, e = .returned (.tuple #[.slice A rs.length c, .bool (lebN m n)]) ∧ Us w' A c rs ∧ Canon rs ∧ val rs = m - n ∧ Below w.heap.size w w' := by
  rcases Nat.lt_or_ge m n with hlt | hge
  · obtain ⟨rfl, b⟩ := h.1 hlt
    refine ⟨none, 0, [], ?_, Us.nil _, canon_nil, ?_, b⟩
    · rw [show lebN m n = false from decide_eq_false (by omega)]
      rfl
    · rw [Nat.sub_eq_zero_of_le (by omega)]
      rfl
  · obtain ⟨A, c, rs, rfl, q, k, v, b⟩ := h.2 hge
    exact ⟨A, c, rs, by rw [show lebN m n = true from decide_eq_true hge], q, k, v, b⟩
/-- An empty row of one's own. -/
theorem own_empty (W : World) : (W.alloc (.cells #[] 35)).ownsRow W.heap.size 35 1 (.slice (some ⟨W.heap.size, 0, none⟩) 0 0) 0 [] :=
  ⟨rfl, .inr ⟨W.heap.size, 0, #[], rfl, Nat.le_refl _, heap_alloc_new W _, Nat.le_refl _, by simp [maxLen], rfl, rfl⟩⟩
theorem St.copied {w W W2 : World} {l : List (Option Addr × Nat × List Nat)} (s : St w W l) {xs : List Nat} (hd : Dig xs) {v : Value}
    (own : W2.ownsRow W.heap.size 35 1 v (0 + xs.length) ([] ++ xs.map u32v)) (grow : (W.alloc (.cells #[] 35)).grownBy W2 (Value.ownBlock (.slice (some ⟨W.heap.size, 0, none⟩) 0 0))) :
    ∃ A c, v = .slice A xs.length c ∧ St w W2 ((A, c, xs) :: l) := by
  rw [Nat.zero_add, List.nil_append] at own
  obtain ⟨A, c, rfl⟩ := own_shape own
  have b : Below W.heap.size W W2 := ((Below.refl _ W).alloc (Nat.le_refl _) _).grown grow (by simp) (fun k hk => by cases hk; exact Nat.le_refl _)
  exact ⟨A, c, rfl, s.call b ⟨hd, Rd.own own⟩⟩
theorem add_61 {x y : Nat} (hx : x < 4294967296 ^ 60) (hy : y < 4294967296 ^ 60) : x + y < 4294967296 ^ 61 := by
  have h2 : (4294967296 : Nat) ^ 61 = 4294967296 ^ 60 * 4294967296 := Nat.pow_succ ..
  rw [h2]
  generalize (4294967296 : Nat) ^ 60 = P at *
  omega

set_option maxRecDepth 100000 in
set_option maxHeartbeats 3200000 in
theorem sums_any (A B : Option Addr) (c d : Nat) (xs ys : List Nat) (w : World) (h : Us w A c xs) (k : Us w B d ys) :
    Calls Try.prog 3 #[.slice A xs.length c, .slice B ys.length d] w fun e w' => e = .returned (.bool true) ∧ Below w.heap.size w w' := by
  obtain ⟨i0, hi, hz0, hz1, hz2⟩ := info_parts Try.infoU
  have HI := Lib.hid (And.intro hi (And.intro hz0 (And.intro hz1 hz2)))
  clear hi hz0 hz1 hz2
  have s0 := ((St.start w).add h).add k
  have hd := h.1
  have hcap := h.cap
  have kd := k.1
  have kcap := k.cap
  clear h k
  go_enter Try.func3, Try.ntmps3
  by_cases hn : xs.length ≤ 60
  · by_cases hm : ys.length ≤ 60
    · have hx := pow_60 hd hn
      have hy := pow_60 kd hm
      have ha := add_61 hx hy
      have hs : val xs - val ys < 4294967296 ^ 60 := Nat.lt_of_le_of_lt (Nat.sub_le _ _) hx
      go_wp2_with (first
        | (go_at_call 10; (refine (alive_any _).mono ?_; rintro e w1 ⟨rfl, b⟩; have s1 := s0.step b; clear b s0))
        | (at_builtin; (refine wpList_append_rd _ rfl _ _ 22 rfl w1.heap.size 35 i0 _ 4 Try.underlying22 HI.out.1 HI.out.2.1 HI.out.2.2.1 HI.out.2.2.2 rfl (.slice (some ⟨w1.heap.size, 0, none⟩) 0 0) 0 [] rfl (own_empty w1) A xs.length c (xs.map u32v) rfl ((s1.alloc _).get (by simp)).2 (by simp) (u32_one _) (by simp only [maxLen]; omega) (by omega) (by simp) ?_; intro v2 w2 own2 grow2 at2; obtain ⟨A2, c2, rfl, s2⟩ := s1.copied hd own2 grow2; clear own2 grow2 at2 s1))
        | (at_builtin; (refine wpList_append_rd _ rfl _ _ 22 rfl w2.heap.size 35 i0 _ 4 Try.underlying22 HI.out.1 HI.out.2.1 HI.out.2.2.1 HI.out.2.2.2 rfl (.slice (some ⟨w2.heap.size, 0, none⟩) 0 0) 0 [] rfl (own_empty w2) B ys.length d (ys.map u32v) rfl ((s2.alloc _).get (by simp)).2 (by simp) (u32_one _) (by simp only [maxLen]; omega) (by omega) (by simp) ?_; intro v3 w3 own3 grow3 at3; obtain ⟨A3, c3, rfl, s3⟩ := s2.copied kd own3 grow3; clear own3 grow3 at3 s2))
        | (go_at_call 11; (refine (sub_any _ _ _ _ xs ys _ (s3.get (by simp)) (s3.get (by simp)) (by omega) (by omega)).mono ?_; intro e w4 h; obtain ⟨A4, c4, r4, rfl, q, k4, v4, b⟩ := h.all; clear h; have d4 := q.1; have s4 := s3.call b q; clear b q s3))
        | (go_at_call 12; (refine (rsub_any _ _ _ _ xs ys _ (s4.get (by simp)) (s4.get (by simp)) (by omega) (by omega)).mono ?_; intro e w5 h; obtain ⟨A5, c5, r5, rfl, q, k5, v5, b⟩ := h.all; clear h; obtain rfl := uniq d4 q.1 k4 k5 (v4.trans v5.symm); have s5 := s4.call b q; clear b q s4 k5 v5))
        | (go_at_call 14; (refine (add_any _ _ _ _ xs ys _ (s5.get (by simp)) (s5.get (by simp)) (by omega) (by omega)).mono ?_; rintro e w6 ⟨A6, c6, r6, rfl, q, k6, v6, b⟩; have d6 := q.1; have s6 := s5.call b q; clear b q s5))
        | (go_at_call 15; (refine (radd_any _ _ _ _ xs ys _ (s6.get (by simp)) (s6.get (by simp)) (by omega) (by omega)).mono ?_; rintro e w7 ⟨A7, c7, r7, rfl, q, k7, v7, b⟩; obtain rfl := uniq d6 q.1 k6 k7 (v6.trans v7.symm); have s7 := s6.call b q; clear b q s6 k7 v7))
        | (go_at_call_of 13 (Value.slice A6 r6.length c6); (refine (same_any _ _ _ _ r6 r6 _ (s7.get (by simp)) (s7.get (by simp)) (len_of k6 v6 61 ha (by decide))).mono ?_; rintro e w8 ⟨rfl, b⟩; rw [decide_eq_true (show r6 = r6 from rfl)]; have s8 := s7.step b; clear b s7))
        | (go_at_call_of 13 (Value.slice A4 r4.length c4); (refine (same_any _ _ _ _ r4 r4 _ (s8.get (by simp)) (s8.get (by simp)) (len_of k4 v4 60 hs (by decide))).mono ?_; rintro e w9 ⟨rfl, b⟩; rw [decide_eq_true (show r4 = r4 from rfl)]; have s9 := s8.step b; clear b s8))
        | (go_at_call 16; (refine (cmp_any _ _ _ _ xs ys _ (s9.get (by simp)) (s9.get (by simp)) (by omega) (by omega)).mono ?_; rintro e w10 ⟨rfl, b⟩; have s10 := s9.step b; clear b s9))
        | (go_at_call 17; (refine (rcmp_any _ _ _ _ xs ys _ (s10.get (by simp)) (s10.get (by simp)) (by omega) (by omega)).mono ?_; rintro e w11 ⟨rfl, b⟩; have s11 := s10.step b; clear b s10))
        | (go_at_call_of 13 (Value.slice A2 xs.length c2); (refine (same_any _ _ _ _ xs xs _ (s11.get (by simp)) (s11.get (by simp)) (by omega)).mono ?_; rintro e w12 ⟨rfl, b⟩; rw [decide_eq_true (show xs = xs from rfl)]; have s12 := s11.step b; clear b s11))
        | (go_at_call_of 13 (Value.slice A3 ys.length c3); (refine (same_any _ _ _ _ ys ys _ (s12.get (by simp)) (s12.get (by simp)) (by omega)).mono ?_; rintro e w13 ⟨rfl, b⟩; rw [decide_eq_true (show ys = ys from rfl)]; have s13 := s12.step b; clear b s12)))
      go_ret
      exact ⟨rfl, s13.1⟩
    · go_wp2_with (go_at_call 10; (refine (alive_any _).mono ?_; rintro e w1 ⟨rfl, b⟩; have s1 := s0.step b; clear b s0))
      go_ret
      exact ⟨rfl, s1.1⟩
  · go_wp2_with (go_at_call 10; (refine (alive_any _).mono ?_; rintro e w1 ⟨rfl, b⟩; have s1 := s0.step b; clear b s0))
    go_ret
    exact ⟨rfl, s1.1⟩

end Go.Proofs.Ythkeehfoefjnfaa
