/-
  LimbBack holds of every input.
-/
import Derived.Test.YthkeehfoefjnfaaShifts
import Derived.Test.YthkeehfoefjnfaaSums
namespace Go.Proofs.Ythkeehfoefjnfaa
set_option linter.unusedVariables false
set_option linter.unusedSimpArgs false
open Go.RowKit Num

theorem us_pair (W : World) (u v : Nat) (t : TypeId) (hu : u < 4294967296) (hv : v < 4294967296) : Us (W.alloc (.cells #[.int .u32 (u : Int), .int .u32 (v : Int)] t)) (some ⟨W.heap.size, 0, none⟩) 2 [u, v] := by
  refine ⟨Dig.cons hu (Dig.cons hv Dig.nil), by simp, by simp [maxLen], fun _ => ⟨_, 0, rfl, by simp, fun j x hx => ?_⟩⟩
  have h := heap_alloc_new W (.cells #[.int .u32 (u : Int), .int .u32 (v : Int)] t)
  rw [cell_of_row _ _ _ _ _ _ h]
  simp only [Nat.zero_add, List.map_cons, List.map_nil, List.getElem?_toArray] at hx ⊢
  exact hx
theorem us_cell0 {W : World} {g u v : Nat} (h : Us W (some ⟨g, 0, none⟩) 2 [u, v]) : W.cell? ⟨g, 0, none⟩ = some (.int .u32 (u : Int)) := by
  obtain ⟨b, off, e, _, hc⟩ := h.2.2.2 (by simp)
  cases e
  exact hc 0 _ rfl
theorem us_cell1 {W : World} {g u v : Nat} (h : Us W (some ⟨g, 0, none⟩) 2 [u, v]) : W.cell? ⟨g, 1, none⟩ = some (.int .u32 (v : Int)) := by
  obtain ⟨b, off, e, _, hc⟩ := h.2.2.2 (by simp)
  cases e
  exact hc 1 _ rfl
theorem shr_shl {x : Nat} {n : Int} (h0 : 0 ≤ n) (h1 : n ≤ 10000) : shrN (shlN x n) n = x := by
  unfold shrN shlN
  rw [if_pos ⟨h0, h1⟩, if_pos ⟨h0, h1⟩]
  exact Nat.mul_div_cancel _ (Nat.two_pow_pos _)
theorem blen_shl {x : Nat} {n : Int} (h0 : 0 ≤ n) (h1 : n ≤ 10000) (hx : x ≠ 0) : ((blen (shlN x n) : Nat) : Int) = (blen x : Int) + n := by
  unfold shlN
  rw [if_pos ⟨h0, h1⟩]
  have h2 : 2 ^ n.toNat ≤ x * 2 ^ n.toNat := Nat.le_mul_of_pos_left _ (by omega)
  rw [blen_div h2, Nat.mul_div_cancel _ (Nat.two_pow_pos _)]
  omega
theorem blen_1920 {x : Nat} (hx : x < 4294967296 ^ 60) : blen x ≤ 1920 := by
  rcases Nat.eq_zero_or_pos x with rfl | h
  · decide
  · have h1 := blen_ge (n := x) (by omega)
    obtain ⟨M, hM⟩ : ∃ M, M = 60 := ⟨_, rfl⟩
    rw [← hM, pow_32] at hx
    have := (Nat.pow_lt_pow_iff_right (a := 2) (by decide)).1 (Nat.lt_of_le_of_lt h1 hx)
    omega
theorem len_zero {rs : List Nat} {x : Nat} (hc : Canon rs) (hv : val rs = x) (hx : x = 0) : rs.length = 0 := by
  rw [canon_zero hc (hv.trans hx)]
  rfl

theorem dq_dr {x m : Nat} (hm : 0 < m) : dq x m * m + dr x m = x := by
  unfold dq dr
  rw [if_neg (by omega), if_neg (by omega), Nat.mul_comm]
  exact Nat.div_add_mod x m
theorem us_pair0 (W : World) (u : Nat) (t : TypeId) (hu : u < 4294967296) : Us (W.alloc (.cells #[.int .u32 (u : Int), .int .u32 0] t)) (some ⟨W.heap.size, 0, none⟩) 2 [u, 0] := us_pair W u 0 t hu (by decide)
theorem us_cell10 {W : World} {g u : Nat} (h : Us W (some ⟨g, 0, none⟩) 2 [u, 0]) : W.cell? ⟨g, 1, none⟩ = some (.int .u32 0) := us_cell1 (u := u) (v := 0) h
theorem dr_mod {x m : Nat} (hm : 0 < m) : dr x m < m := by
  unfold dr
  rw [if_neg (by omega)]
  exact Nat.mod_lt _ hm

set_option maxRecDepth 100000 in
set_option maxHeartbeats 6400000 in
theorem back_zz (A B : Option Addr) (c d t m : Nat) (xs ys : List Nat) (w : World) (h : Us w A c xs) (k : Us w B d ys) (ht : t < 4294967296) (hmm : m < 4294967296) (hn : xs.length ≤ 60) (hm : ys.length ≤ 60) (hz : val xs = 0) (hm0 : m = 0) :
    Calls Try.prog 6 #[.slice A xs.length c, .slice B ys.length d, .agg #[.int .u32 (t : Int), .int .u32 (m : Int)]] w fun e w' => e = .returned (.bool true) ∧ Below w.heap.size w w' := by
  have s0 := ((St.start w).add h).add k
  have hd := h.1
  have hcap := h.cap
  have kd := k.1
  have kcap := k.cap
  have hx := pow_60 hd hn
  have hy := pow_60 kd hm
  have hbl := blen_1920 hx
  have n0 : 0 ≤ (t : Int) % 200 := by omega
  have n1 : (t : Int) % 200 ≤ 10000 := by omega
  have n2 : (t : Int) % 200 < 200 := by omega
  have HA := Lib.hid (add_61 hx hy)
  have HSL := Lib.hid (shlN_lt ((t : Int) % 200) hx)
  have HX := Lib.hid hx
  subst hm0
  have HZ := Lib.hid hz
  clear h k hx hy
  have HB1 := Lib.hid (show blen (val xs) = 0 by rw [hz]; rfl)
  have HB0 := Lib.hid (show blen (shlN (val xs) ((t : Int) % 200)) = 0 by rw [hz]; unfold shlN; rw [if_pos ⟨n0, n1⟩, Nat.zero_mul]; rfl)
  clear hz
  go_enter Try.func6, Try.ntmps6
  go_wp2_with (first
    | (go_at_call 10; go_loud (refine (alive_any _).mono ?_; rintro e w1 ⟨rfl, b⟩; have s1 := ((s0.alloc _).add (us_pair0 w t _ ht)).step b; clear b s0))
    | (go_at_call 28; go_loud (refine (norm_any _ _ xs _ (s1.get (by simp)) (by omega)).mono ?_; rintro e w2 ⟨A2, c2, r2, rfl, q, k2, v2, b⟩; obtain rfl : r2 = [] := canon_zero k2 (v2.trans HZ.out); have d2 := q.1; have s2 := s1.call b q; clear b q s1))
    | (go_at_call 14; refine (add_any _ _ _ _ xs ys _ (s2.get (by simp)) (s2.get (by simp)) (by omega) (by omega)).mono ?_; rintro e w3 ⟨A3, c3, r3, rfl, q, k3, v3, b⟩; have d3 := q.1; have s3 := s2.call b q; clear b q s2)
    | (go_at_call 11; go_loud (refine (sub_any _ _ _ _ r3 ys _ (s3.get (by simp)) (s3.get (by simp)) (len_of k3 v3 61 HA.out (by decide)) (by omega)).mono ?_; intro e w4 h; have h' := h.yes [] k2 d2 (by rw [v3]; omega) (by rw [v2, v3]; omega); clear h; obtain ⟨A4, c4, rfl, q, b⟩ := h'; have s4 := s3.call b q; clear b q s3 k3 v3 d3; have cT := us_cell0 (u := t) (v := 0) (g := w.heap.size) (s4.get (by simp))))
    | (go_at_call_of 13 (Value.slice A4 0 c4); go_loud (refine (same_any _ _ _ _ [] [] _ (s4.get (by simp)) (s4.get (by simp)) (len_of k2 v2 60 HX.out (by decide))).mono ?_; rintro e w5 ⟨rfl, b⟩; rw [decide_eq_true (show ([] : List Nat) = [] from rfl)]; have s5 := s4.step b; clear b s4 cT))
    | (go_at_call 18; refine (shl_z _ _ xs ((t : Int) % 200) _ (s5.get (by simp)) (by omega)).mono ?_; rintro e w6 ⟨A6, c6, r6, rfl, q, k6, v6, b⟩; have d6 := q.1; have s6 := s5.call b q; clear b q s5; have l6 : r6.length ≤ 373 := len_le k6 (by rw [v6]; exact HSL.out))
    | (go_at_call 20; go_loud (refine (shr_z _ _ r6 ((t : Int) % 200) _ (s6.get (by simp)) (by omega)).mono ?_; rintro e w7 ⟨A7, c7, r7, rfl, q, k7, v7, b⟩; obtain rfl := uniq d2 q.1 k2 k7 (by rw [v7, v6, v2, shr_shl n0 n1]); have s7 := s6.call b q; clear b q s6 k7 v7 k6 v6 d6 l6))
    | (go_at_call_of 13 (Value.slice A7 0 c7); go_loud (refine (same_any _ _ _ _ [] [] _ (s7.get (by simp)) (s7.get (by simp)) (len_of k2 v2 60 HX.out (by decide))).mono ?_; rintro e w8 ⟨rfl, b⟩; rw [decide_eq_true (show ([] : List Nat) = [] from rfl)]; have s8 := s7.step b; clear b s7))
    | (go_at_call 18; refine (shl_z _ _ xs ((t : Int) % 200) _ (s8.get (by simp)) (by omega)).mono ?_; rintro e w9 ⟨A9, c9, r9, rfl, q, k9, v9, b⟩; have s9 := s8.call b q; clear b q s8; have l9 : r9.length ≤ 373 := len_le k9 (by rw [v9]; exact HSL.out))
    | (go_at_call_of 22 (Value.slice A9 r9.length c9); go_loud (refine (len_any _ _ r9 _ (s9.get (by simp)) (by omega)).mono ?_; rintro e w10 ⟨rfl, b⟩; rw [v9]; rw [HB0.out]; have s10 := s9.step b; clear b s9 l9 v9 k9))
    | (go_at_call 22; refine (len_any _ _ xs _ (s10.get (by simp)) (by omega)).mono ?_; rintro e w11 ⟨rfl, b⟩; rw [HB1.out]; have s11 := s10.step b; clear b s10)
    | (go_at_call 14; refine (add_any _ _ _ _ xs ys _ (s11.get (by simp)) (s11.get (by simp)) (by omega) (by omega)).mono ?_; rintro e w12 ⟨A12, c12, r12, rfl, q, k12, v12, b⟩; have d12 := q.1; have s12 := s11.call b q; clear b q s11)
    | (go_at_call 14; refine (add_any _ _ _ _ ys xs _ (s12.get (by simp)) (s12.get (by simp)) (by omega) (by omega)).mono ?_; rintro e w13 ⟨A13, c13, r13, rfl, q, k13, v13, b⟩; obtain rfl := uniq d12 q.1 k12 k13 (by rw [v12, v13, Nat.add_comm]); have s13 := s12.call b q; clear b q s12 k13 v13)
    | (go_at_call_of 13 (Value.slice A12 r12.length c12); go_loud (refine (same_any _ _ _ _ r12 r12 _ (s13.get (by simp)) (s13.get (by simp)) (len_of k12 v12 61 HA.out (by decide))).mono ?_; rintro e w14 ⟨rfl, b⟩; rw [decide_eq_true (show r12 = r12 from rfl)]; have s14 := s13.step b; clear b s13 k12 v12 d12; have cM := us_cell10 (u := t) (g := w.heap.size) (s14.get (by simp)))))
  all_goals
    go_ret
    exact ⟨rfl, s14.1⟩

set_option maxRecDepth 100000 in
set_option maxHeartbeats 6400000 in
theorem back_pz (A B : Option Addr) (c d t m : Nat) (xs ys : List Nat) (w : World) (h : Us w A c xs) (k : Us w B d ys) (ht : t < 4294967296) (hmm : m < 4294967296) (hn : xs.length ≤ 60) (hm : ys.length ≤ 60) (hz : val xs ≠ 0) (hm0 : m = 0) :
    Calls Try.prog 6 #[.slice A xs.length c, .slice B ys.length d, .agg #[.int .u32 (t : Int), .int .u32 (m : Int)]] w fun e w' => e = .returned (.bool true) ∧ Below w.heap.size w w' := by
  have s0 := ((St.start w).add h).add k
  have hd := h.1
  have hcap := h.cap
  have kd := k.1
  have kcap := k.cap
  have hx := pow_60 hd hn
  have hy := pow_60 kd hm
  have hbl := blen_1920 hx
  have n0 : 0 ≤ (t : Int) % 200 := by omega
  have n1 : (t : Int) % 200 ≤ 10000 := by omega
  have n2 : (t : Int) % 200 < 200 := by omega
  have HA := Lib.hid (add_61 hx hy)
  have HSL := Lib.hid (shlN_lt ((t : Int) % 200) hx)
  have HX := Lib.hid hx
  subst hm0
  have HZ := Lib.hid hz
  clear h k hx hy
  clear hz
  go_enter Try.func6, Try.ntmps6
  go_wp2_with (first
    | (go_at_call 10; go_loud (refine (alive_any _).mono ?_; rintro e w1 ⟨rfl, b⟩; have s1 := ((s0.alloc _).add (us_pair0 w t _ ht)).step b; clear b s0))
    | (go_at_call 28; go_loud (refine (norm_any _ _ xs _ (s1.get (by simp)) (by omega)).mono ?_; rintro e w2 ⟨A2, c2, r2, rfl, q, k2, v2, b⟩; have d2 := q.1; have s2 := s1.call b q; clear b q s1))
    | (go_at_call 14; refine (add_any _ _ _ _ xs ys _ (s2.get (by simp)) (s2.get (by simp)) (by omega) (by omega)).mono ?_; rintro e w3 ⟨A3, c3, r3, rfl, q, k3, v3, b⟩; have d3 := q.1; have s3 := s2.call b q; clear b q s2)
    | (go_at_call 11; go_loud (refine (sub_any _ _ _ _ r3 ys _ (s3.get (by simp)) (s3.get (by simp)) (len_of k3 v3 61 HA.out (by decide)) (by omega)).mono ?_; intro e w4 h; have h' := h.yes r2 k2 d2 (by rw [v3]; omega) (by rw [v2, v3]; omega); clear h; obtain ⟨A4, c4, rfl, q, b⟩ := h'; have s4 := s3.call b q; clear b q s3 k3 v3 d3; have cT := us_cell0 (u := t) (v := 0) (g := w.heap.size) (s4.get (by simp))))
    | (go_at_call_of 13 (Value.slice A4 r2.length c4); go_loud (refine (same_any _ _ _ _ r2 r2 _ (s4.get (by simp)) (s4.get (by simp)) (len_of k2 v2 60 HX.out (by decide))).mono ?_; rintro e w5 ⟨rfl, b⟩; rw [decide_eq_true (show r2 = r2 from rfl)]; have s5 := s4.step b; clear b s4 cT))
    | (go_at_call 18; refine (shl_z _ _ xs ((t : Int) % 200) _ (s5.get (by simp)) (by omega)).mono ?_; rintro e w6 ⟨A6, c6, r6, rfl, q, k6, v6, b⟩; have d6 := q.1; have s6 := s5.call b q; clear b q s5; have l6 : r6.length ≤ 373 := len_le k6 (by rw [v6]; exact HSL.out))
    | (go_at_call 20; go_loud (refine (shr_z _ _ r6 ((t : Int) % 200) _ (s6.get (by simp)) (by omega)).mono ?_; rintro e w7 ⟨A7, c7, r7, rfl, q, k7, v7, b⟩; obtain rfl := uniq d2 q.1 k2 k7 (by rw [v7, v6, v2, shr_shl n0 n1]); have s7 := s6.call b q; clear b q s6 k7 v7 k6 v6 d6 l6))
    | (go_at_call_of 13 (Value.slice A7 r2.length c7); go_loud (refine (same_any _ _ _ _ r2 r2 _ (s7.get (by simp)) (s7.get (by simp)) (len_of k2 v2 60 HX.out (by decide))).mono ?_; rintro e w8 ⟨rfl, b⟩; rw [decide_eq_true (show r2 = r2 from rfl)]; have s8 := s7.step b; clear b s7))
    | (go_at_call 18; refine (shl_z _ _ xs ((t : Int) % 200) _ (s8.get (by simp)) (by omega)).mono ?_; rintro e w9 ⟨A9, c9, r9, rfl, q, k9, v9, b⟩; have s9 := s8.call b q; clear b q s8; have l9 : r9.length ≤ 373 := len_le k9 (by rw [v9]; exact HSL.out))
    | (go_at_call_of 22 (Value.slice A9 r9.length c9); go_loud (refine (len_any _ _ r9 _ (s9.get (by simp)) (by omega)).mono ?_; rintro e w10 ⟨rfl, b⟩; rw [v9]; rw [blen_shl n0 n1 HZ.out]; have s10 := s9.step b; clear b s9 l9 v9 k9))
    | (go_at_call 22; refine (len_any _ _ xs _ (s10.get (by simp)) (by omega)).mono ?_; rintro e w11 ⟨rfl, b⟩; have s11 := s10.step b; clear b s10)
    | (go_at_call 14; refine (add_any _ _ _ _ xs ys _ (s11.get (by simp)) (s11.get (by simp)) (by omega) (by omega)).mono ?_; rintro e w12 ⟨A12, c12, r12, rfl, q, k12, v12, b⟩; have d12 := q.1; have s12 := s11.call b q; clear b q s11)
    | (go_at_call 14; refine (add_any _ _ _ _ ys xs _ (s12.get (by simp)) (s12.get (by simp)) (by omega) (by omega)).mono ?_; rintro e w13 ⟨A13, c13, r13, rfl, q, k13, v13, b⟩; obtain rfl := uniq d12 q.1 k12 k13 (by rw [v12, v13, Nat.add_comm]); have s13 := s12.call b q; clear b q s12 k13 v13)
    | (go_at_call_of 13 (Value.slice A12 r12.length c12); go_loud (refine (same_any _ _ _ _ r12 r12 _ (s13.get (by simp)) (s13.get (by simp)) (len_of k12 v12 61 HA.out (by decide))).mono ?_; rintro e w14 ⟨rfl, b⟩; rw [decide_eq_true (show r12 = r12 from rfl)]; have s14 := s13.step b; clear b s13 k12 v12 d12; have cM := us_cell10 (u := t) (g := w.heap.size) (s14.get (by simp)))))
  all_goals
    go_ret
    exact ⟨rfl, s14.1⟩

set_option maxRecDepth 100000 in
set_option maxHeartbeats 6400000 in
theorem back_zp (A B : Option Addr) (c d t m : Nat) (xs ys : List Nat) (w : World) (h : Us w A c xs) (k : Us w B d ys) (ht : t < 4294967296) (hmm : m < 4294967296) (hn : xs.length ≤ 60) (hm : ys.length ≤ 60) (hz : val xs = 0) (hm0 : m ≠ 0) :
    Calls Try.prog 6 #[.slice A xs.length c, .slice B ys.length d, .agg #[.int .u32 (t : Int), .int .u32 (m : Int)]] w fun e w' => e = .returned (.bool true) ∧ Below w.heap.size w w' := by
  have s0 := ((St.start w).add h).add k
  have hd := h.1
  have hcap := h.cap
  have kd := k.1
  have kcap := k.cap
  have hx := pow_60 hd hn
  have hy := pow_60 kd hm
  have hbl := blen_1920 hx
  have n0 : 0 ≤ (t : Int) % 200 := by omega
  have n1 : (t : Int) % 200 ≤ 10000 := by omega
  have n2 : (t : Int) % 200 < 200 := by omega
  have HA := Lib.hid (add_61 hx hy)
  have HSL := Lib.hid (shlN_lt ((t : Int) % 200) hx)
  have HX := Lib.hid hx
  have hm1 : 0 < m := by omega
  have HZ := Lib.hid hz
  clear h k hx hy hm0
  have HB1 := Lib.hid (show blen (val xs) = 0 by rw [hz]; rfl)
  have HB0 := Lib.hid (show blen (shlN (val xs) ((t : Int) % 200)) = 0 by rw [hz]; unfold shlN; rw [if_pos ⟨n0, n1⟩, Nat.zero_mul]; rfl)
  clear hz
  go_enter Try.func6, Try.ntmps6
  go_wp2_with (first
    | (go_at_call 10; go_loud (refine (alive_any _).mono ?_; rintro e w1 ⟨rfl, b⟩; have s1 := ((s0.alloc _).add (us_pair w t _ _ ht hmm)).step b; clear b s0))
    | (go_at_call 28; go_loud (refine (norm_any _ _ xs _ (s1.get (by simp)) (by omega)).mono ?_; rintro e w2 ⟨A2, c2, r2, rfl, q, k2, v2, b⟩; obtain rfl : r2 = [] := canon_zero k2 (v2.trans HZ.out); have d2 := q.1; have s2 := s1.call b q; clear b q s1))
    | (go_at_call 14; refine (add_any _ _ _ _ xs ys _ (s2.get (by simp)) (s2.get (by simp)) (by omega) (by omega)).mono ?_; rintro e w3 ⟨A3, c3, r3, rfl, q, k3, v3, b⟩; have d3 := q.1; have s3 := s2.call b q; clear b q s2)
    | (go_at_call 11; go_loud (refine (sub_any _ _ _ _ r3 ys _ (s3.get (by simp)) (s3.get (by simp)) (len_of k3 v3 61 HA.out (by decide)) (by omega)).mono ?_; intro e w4 h; have h' := h.yes [] k2 d2 (by rw [v3]; omega) (by rw [v2, v3]; omega); clear h; obtain ⟨A4, c4, rfl, q, b⟩ := h'; have s4 := s3.call b q; clear b q s3 k3 v3 d3; have cT := us_cell0 (u := t) (v := m) (g := w.heap.size) (s4.get (by simp))))
    | (go_at_call_of 13 (Value.slice A4 0 c4); go_loud (refine (same_any _ _ _ _ [] [] _ (s4.get (by simp)) (s4.get (by simp)) (len_of k2 v2 60 HX.out (by decide))).mono ?_; rintro e w5 ⟨rfl, b⟩; rw [decide_eq_true (show ([] : List Nat) = [] from rfl)]; have s5 := s4.step b; clear b s4 cT))
    | (go_at_call 18; refine (shl_z _ _ xs ((t : Int) % 200) _ (s5.get (by simp)) (by omega)).mono ?_; rintro e w6 ⟨A6, c6, r6, rfl, q, k6, v6, b⟩; have d6 := q.1; have s6 := s5.call b q; clear b q s5; have l6 : r6.length ≤ 373 := len_le k6 (by rw [v6]; exact HSL.out))
    | (go_at_call 20; go_loud (refine (shr_z _ _ r6 ((t : Int) % 200) _ (s6.get (by simp)) (by omega)).mono ?_; rintro e w7 ⟨A7, c7, r7, rfl, q, k7, v7, b⟩; obtain rfl := uniq d2 q.1 k2 k7 (by rw [v7, v6, v2, shr_shl n0 n1]); have s7 := s6.call b q; clear b q s6 k7 v7 k6 v6 d6 l6))
    | (go_at_call_of 13 (Value.slice A7 0 c7); go_loud (refine (same_any _ _ _ _ [] [] _ (s7.get (by simp)) (s7.get (by simp)) (len_of k2 v2 60 HX.out (by decide))).mono ?_; rintro e w8 ⟨rfl, b⟩; rw [decide_eq_true (show ([] : List Nat) = [] from rfl)]; have s8 := s7.step b; clear b s7))
    | (go_at_call 18; refine (shl_z _ _ xs ((t : Int) % 200) _ (s8.get (by simp)) (by omega)).mono ?_; rintro e w9 ⟨A9, c9, r9, rfl, q, k9, v9, b⟩; have s9 := s8.call b q; clear b q s8; have l9 : r9.length ≤ 373 := len_le k9 (by rw [v9]; exact HSL.out))
    | (go_at_call_of 22 (Value.slice A9 r9.length c9); go_loud (refine (len_any _ _ r9 _ (s9.get (by simp)) (by omega)).mono ?_; rintro e w10 ⟨rfl, b⟩; rw [v9]; rw [HB0.out]; have s10 := s9.step b; clear b s9 l9 v9 k9))
    | (go_at_call 22; refine (len_any _ _ xs _ (s10.get (by simp)) (by omega)).mono ?_; rintro e w11 ⟨rfl, b⟩; rw [HB1.out]; have s11 := s10.step b; clear b s10)
    | (go_at_call 14; refine (add_any _ _ _ _ xs ys _ (s11.get (by simp)) (s11.get (by simp)) (by omega) (by omega)).mono ?_; rintro e w12 ⟨A12, c12, r12, rfl, q, k12, v12, b⟩; have d12 := q.1; have s12 := s11.call b q; clear b q s11)
    | (go_at_call 14; refine (add_any _ _ _ _ ys xs _ (s12.get (by simp)) (s12.get (by simp)) (by omega) (by omega)).mono ?_; rintro e w13 ⟨A13, c13, r13, rfl, q, k13, v13, b⟩; obtain rfl := uniq d12 q.1 k12 k13 (by rw [v12, v13, Nat.add_comm]); have s13 := s12.call b q; clear b q s12 k13 v13)
    | (go_at_call_of 13 (Value.slice A12 r12.length c12); go_loud (refine (same_any _ _ _ _ r12 r12 _ (s13.get (by simp)) (s13.get (by simp)) (len_of k12 v12 61 HA.out (by decide))).mono ?_; rintro e w14 ⟨rfl, b⟩; rw [decide_eq_true (show r12 = r12 from rfl)]; have s14 := s13.step b; clear b s13 k12 v12 d12; have cM := us_cell1 (u := t) (v := m) (g := w.heap.size) (s14.get (by simp))))
    | (go_at_call 30; go_loud (refine (div_d _ _ xs m _ (s14.get (by simp)) (by omega) hmm).mono ?_; rintro e w15 ⟨A15, c15, r15, rfl, q, k15, v15, b⟩; have hlt := dr_mod (x := val xs) (m := m) (by omega); have s15 := s14.call b q; clear b q s14 cM; have cM := us_cell1 (u := t) (v := m) (g := w.heap.size) (s15.get (by simp))))
    | (go_at_call 32; go_loud (refine (mul_any _ _ r15 m (dr (val xs) m) _ (s15.get (by simp)) (by have := len_le k15 (m := 60) (by rw [v15]; exact Nat.lt_of_le_of_lt (dq_le _ _) HX.out); omega) hmm (by omega)).mono ?_; rintro e w16 ⟨A16, c16, r16, rfl, q, k16, v16, b⟩; obtain rfl := uniq d2 q.1 k2 k16 (by rw [v16, v15, v2, dq_dr (by omega)]); have s16 := s15.call b q; clear b q s15 k16 v16))
    | (go_at_call_of 13 (Value.slice A16 0 c16); go_loud (refine (same_any _ _ _ _ [] [] _ (s16.get (by simp)) (s16.get (by simp)) (len_of k2 v2 60 HX.out (by decide))).mono ?_; rintro e w17 ⟨rfl, b⟩; rw [decide_eq_true (show ([] : List Nat) = [] from rfl)]; have s17 := s16.step b; clear b s16)))
  all_goals
    go_ret
    exact ⟨rfl, s17.1⟩

set_option maxRecDepth 100000 in
set_option maxHeartbeats 6400000 in
theorem back_pp (A B : Option Addr) (c d t m : Nat) (xs ys : List Nat) (w : World) (h : Us w A c xs) (k : Us w B d ys) (ht : t < 4294967296) (hmm : m < 4294967296) (hn : xs.length ≤ 60) (hm : ys.length ≤ 60) (hz : val xs ≠ 0) (hm0 : m ≠ 0) :
    Calls Try.prog 6 #[.slice A xs.length c, .slice B ys.length d, .agg #[.int .u32 (t : Int), .int .u32 (m : Int)]] w fun e w' => e = .returned (.bool true) ∧ Below w.heap.size w w' := by
  have s0 := ((St.start w).add h).add k
  have hd := h.1
  have hcap := h.cap
  have kd := k.1
  have kcap := k.cap
  have hx := pow_60 hd hn
  have hy := pow_60 kd hm
  have hbl := blen_1920 hx
  have n0 : 0 ≤ (t : Int) % 200 := by omega
  have n1 : (t : Int) % 200 ≤ 10000 := by omega
  have n2 : (t : Int) % 200 < 200 := by omega
  have HA := Lib.hid (add_61 hx hy)
  have HSL := Lib.hid (shlN_lt ((t : Int) % 200) hx)
  have HX := Lib.hid hx
  have hm1 : 0 < m := by omega
  have HZ := Lib.hid hz
  clear h k hx hy hm0
  clear hz
  go_enter Try.func6, Try.ntmps6
  go_wp2_with (first
    | (go_at_call 10; go_loud (refine (alive_any _).mono ?_; rintro e w1 ⟨rfl, b⟩; have s1 := ((s0.alloc _).add (us_pair w t _ _ ht hmm)).step b; clear b s0))
    | (go_at_call 28; go_loud (refine (norm_any _ _ xs _ (s1.get (by simp)) (by omega)).mono ?_; rintro e w2 ⟨A2, c2, r2, rfl, q, k2, v2, b⟩; have d2 := q.1; have s2 := s1.call b q; clear b q s1))
    | (go_at_call 14; refine (add_any _ _ _ _ xs ys _ (s2.get (by simp)) (s2.get (by simp)) (by omega) (by omega)).mono ?_; rintro e w3 ⟨A3, c3, r3, rfl, q, k3, v3, b⟩; have d3 := q.1; have s3 := s2.call b q; clear b q s2)
    | (go_at_call 11; go_loud (refine (sub_any _ _ _ _ r3 ys _ (s3.get (by simp)) (s3.get (by simp)) (len_of k3 v3 61 HA.out (by decide)) (by omega)).mono ?_; intro e w4 h; have h' := h.yes r2 k2 d2 (by rw [v3]; omega) (by rw [v2, v3]; omega); clear h; obtain ⟨A4, c4, rfl, q, b⟩ := h'; have s4 := s3.call b q; clear b q s3 k3 v3 d3; have cT := us_cell0 (u := t) (v := m) (g := w.heap.size) (s4.get (by simp))))
    | (go_at_call_of 13 (Value.slice A4 r2.length c4); go_loud (refine (same_any _ _ _ _ r2 r2 _ (s4.get (by simp)) (s4.get (by simp)) (len_of k2 v2 60 HX.out (by decide))).mono ?_; rintro e w5 ⟨rfl, b⟩; rw [decide_eq_true (show r2 = r2 from rfl)]; have s5 := s4.step b; clear b s4 cT))
    | (go_at_call 18; refine (shl_z _ _ xs ((t : Int) % 200) _ (s5.get (by simp)) (by omega)).mono ?_; rintro e w6 ⟨A6, c6, r6, rfl, q, k6, v6, b⟩; have d6 := q.1; have s6 := s5.call b q; clear b q s5; have l6 : r6.length ≤ 373 := len_le k6 (by rw [v6]; exact HSL.out))
    | (go_at_call 20; go_loud (refine (shr_z _ _ r6 ((t : Int) % 200) _ (s6.get (by simp)) (by omega)).mono ?_; rintro e w7 ⟨A7, c7, r7, rfl, q, k7, v7, b⟩; obtain rfl := uniq d2 q.1 k2 k7 (by rw [v7, v6, v2, shr_shl n0 n1]); have s7 := s6.call b q; clear b q s6 k7 v7 k6 v6 d6 l6))
    | (go_at_call_of 13 (Value.slice A7 r2.length c7); go_loud (refine (same_any _ _ _ _ r2 r2 _ (s7.get (by simp)) (s7.get (by simp)) (len_of k2 v2 60 HX.out (by decide))).mono ?_; rintro e w8 ⟨rfl, b⟩; rw [decide_eq_true (show r2 = r2 from rfl)]; have s8 := s7.step b; clear b s7))
    | (go_at_call 18; refine (shl_z _ _ xs ((t : Int) % 200) _ (s8.get (by simp)) (by omega)).mono ?_; rintro e w9 ⟨A9, c9, r9, rfl, q, k9, v9, b⟩; have s9 := s8.call b q; clear b q s8; have l9 : r9.length ≤ 373 := len_le k9 (by rw [v9]; exact HSL.out))
    | (go_at_call_of 22 (Value.slice A9 r9.length c9); go_loud (refine (len_any _ _ r9 _ (s9.get (by simp)) (by omega)).mono ?_; rintro e w10 ⟨rfl, b⟩; rw [v9]; rw [blen_shl n0 n1 HZ.out]; have s10 := s9.step b; clear b s9 l9 v9 k9))
    | (go_at_call 22; refine (len_any _ _ xs _ (s10.get (by simp)) (by omega)).mono ?_; rintro e w11 ⟨rfl, b⟩; have s11 := s10.step b; clear b s10)
    | (go_at_call 14; refine (add_any _ _ _ _ xs ys _ (s11.get (by simp)) (s11.get (by simp)) (by omega) (by omega)).mono ?_; rintro e w12 ⟨A12, c12, r12, rfl, q, k12, v12, b⟩; have d12 := q.1; have s12 := s11.call b q; clear b q s11)
    | (go_at_call 14; refine (add_any _ _ _ _ ys xs _ (s12.get (by simp)) (s12.get (by simp)) (by omega) (by omega)).mono ?_; rintro e w13 ⟨A13, c13, r13, rfl, q, k13, v13, b⟩; obtain rfl := uniq d12 q.1 k12 k13 (by rw [v12, v13, Nat.add_comm]); have s13 := s12.call b q; clear b q s12 k13 v13)
    | (go_at_call_of 13 (Value.slice A12 r12.length c12); go_loud (refine (same_any _ _ _ _ r12 r12 _ (s13.get (by simp)) (s13.get (by simp)) (len_of k12 v12 61 HA.out (by decide))).mono ?_; rintro e w14 ⟨rfl, b⟩; rw [decide_eq_true (show r12 = r12 from rfl)]; have s14 := s13.step b; clear b s13 k12 v12 d12; have cM := us_cell1 (u := t) (v := m) (g := w.heap.size) (s14.get (by simp))))
    | (go_at_call 30; go_loud (refine (div_d _ _ xs m _ (s14.get (by simp)) (by omega) hmm).mono ?_; rintro e w15 ⟨A15, c15, r15, rfl, q, k15, v15, b⟩; have hlt := dr_mod (x := val xs) (m := m) (by omega); have s15 := s14.call b q; clear b q s14 cM; have cM := us_cell1 (u := t) (v := m) (g := w.heap.size) (s15.get (by simp))))
    | (go_at_call 32; go_loud (refine (mul_any _ _ r15 m (dr (val xs) m) _ (s15.get (by simp)) (by have := len_le k15 (m := 60) (by rw [v15]; exact Nat.lt_of_le_of_lt (dq_le _ _) HX.out); omega) hmm (by omega)).mono ?_; rintro e w16 ⟨A16, c16, r16, rfl, q, k16, v16, b⟩; obtain rfl := uniq d2 q.1 k2 k16 (by rw [v16, v15, v2, dq_dr (by omega)]); have s16 := s15.call b q; clear b q s15 k16 v16))
    | (go_at_call_of 13 (Value.slice A16 r2.length c16); go_loud (refine (same_any _ _ _ _ r2 r2 _ (s16.get (by simp)) (s16.get (by simp)) (len_of k2 v2 60 HX.out (by decide))).mono ?_; rintro e w17 ⟨rfl, b⟩; rw [decide_eq_true (show r2 = r2 from rfl)]; have s17 := s16.step b; clear b s16)))
  all_goals
    go_ret
    exact ⟨rfl, s17.1⟩

set_option maxRecDepth 100000 in
set_option maxHeartbeats 1600000 in
theorem back_law (A B : Option Addr) (c d t m : Nat) (xs ys : List Nat) (w : World) (h : Us w A c xs) (k : Us w B d ys) (ht : t < 4294967296) (hmm : m < 4294967296) :
    Calls Try.prog 6 #[.slice A xs.length c, .slice B ys.length d, .agg #[.int .u32 (t : Int), .int .u32 (m : Int)]] w fun e w' => e = .returned (.bool true) ∧ Below w.heap.size w w' := by
  by_cases hn : xs.length ≤ 60
  · by_cases hm : ys.length ≤ 60
    · by_cases hz : val xs = 0
      · by_cases hm0 : m = 0
        · exact back_zz A B c d t m xs ys w h k ht hmm hn hm hz hm0
        · exact back_zp A B c d t m xs ys w h k ht hmm hn hm hz hm0
      · by_cases hm0 : m = 0
        · exact back_pz A B c d t m xs ys w h k ht hmm hn hm hz hm0
        · exact back_pp A B c d t m xs ys w h k ht hmm hn hm hz hm0
    · have s0 := ((St.start w).add h).add k
      have hcap := h.cap
      have kcap := k.cap
      clear h k
      go_enter Try.func6, Try.ntmps6
      go_wp2_with (go_at_call 10; go_loud (refine (alive_any _).mono ?_; rintro e w1 ⟨rfl, b⟩; have s1 := (s0.alloc _).step b; clear b s0))
      go_ret
      exact ⟨rfl, s1.1⟩
  · have s0 := ((St.start w).add h).add k
    have hcap := h.cap
    have kcap := k.cap
    clear h k
    go_enter Try.func6, Try.ntmps6
    go_wp2_with (go_at_call 10; go_loud (refine (alive_any _).mono ?_; rintro e w1 ⟨rfl, b⟩; have s1 := (s0.alloc _).step b; clear b s0))
    go_ret
    exact ⟨rfl, s1.1⟩
end Go.Proofs.Ythkeehfoefjnfaa
