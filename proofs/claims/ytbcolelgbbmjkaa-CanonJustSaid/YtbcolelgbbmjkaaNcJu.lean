/-
  canon: CanonJust, the walk.
-/
import Derived.Test.YtbcolelgbbmjkaaNcOf

namespace Go.Proofs.Ytbcolelgbbmjkaa
set_option linter.unusedVariables false
set_option linter.unusedSimpArgs false
open Go.RowKit Nds
set_option maxRecDepth 100000 in
set_option maxHeartbeats 3200000 in
theorem canonjust_great (A B : Option Addr) (c d n p : Nat) (k : Int) (w : World) (h : 60 < n ∨ (n ≤ 60 ∧ 60 < p)) (hn : n ≤ 9223372036854775807) (hp : p ≤ 9223372036854775807) :
    Calls Try.prog 4 #[.slice A n c, .slice B p d, .int .i64 k] w fun e w' => e = .returned (.bool true) ∧ Below w.heap.size w w' := by
  rcases h with h | ⟨h2, h⟩
  all_goals
    go_enter Try.func4, Try.ntmps4
    go_wp2_with (go_at_call 5; refine (alive6_any _).mono ?_; rintro e w1 ⟨rfl, b1⟩; have B1 := Lib.hid b1; clear b1)
    go_ret
    exact ⟨rfl, B1.out⟩
set_option maxRecDepth 100000 in
set_option maxHeartbeats 3200000 in
theorem canonjust_not (A B : Option Addr) (c d n p : Nat) (k : Int) (l m : List Nd) (w : World) (h : Ns w A c l) (g : Ns w B d m) (hn : l.length = n) (hp : m.length = p) (hn6 : n ≤ 60) (hp6 : p ≤ 60)
    (hno : looseB l = false ∨ (looseB l = true ∧ looseB m = false) ∨ (looseB l = true ∧ looseB m = true ∧ k < 0) ∨ (looseB l = true ∧ looseB m = true ∧ 0 ≤ k ∧ (n : Int) < k)) :
    Calls Try.prog 4 #[.slice A n c, .slice B p d, .int .i64 k] w fun e w' => e = .returned (.bool true) ∧ Below w.heap.size w w' := by
  have HS := Lib.hid (((Sn.start w).add h).add g)
  have HN := Lib.hid hn
  have HP := Lib.hid hp
  have q0 : True := trivial
  clear h g hn hp
  rcases hno with hq | ⟨hq, hr⟩ | ⟨hq, hr, hk⟩ | ⟨hq, hr, hk0, hk⟩
  · have HQ := Lib.hid hq
    clear hq
    go_enter Try.func4, Try.ntmps4
    go_wp2_with (first
      | (have _t := q0; go_at_call 5; clear _t; go_loud (refine (alive6_any _).mono ?_; rintro e w1 ⟨rfl, b1⟩; have HS := Lib.hid (HS.out.step b1); clear b1; have q1 := q0; clear q0))
      | (have _t := q1; go_at_call 11; clear _t; go_loud (refine (rloose_b A c n l _ (HS.out.get (by simp)) HN.out).mono ?_; rintro e w2 ⟨rfl, b2⟩; rw [HQ.out]; have HS := Lib.hid (HS.out.step b2); clear b2; have q2 := q1; clear q1)))
    go_ret
    exact ⟨rfl, HS.out.1⟩
  all_goals
    have HQ := Lib.hid hq
    have HR := Lib.hid hr
    clear hq hr
    go_enter Try.func4, Try.ntmps4
    go_wp2_with (first
      | (have _t := q0; go_at_call 5; clear _t; go_loud (refine (alive6_any _).mono ?_; rintro e w1 ⟨rfl, b1⟩; have HS := Lib.hid (HS.out.step b1); clear b1; have q1 := q0; clear q0))
      | (have _t := q1; go_at_call 11; clear _t; go_loud (refine (rloose_b A c n l _ (HS.out.get (by simp)) HN.out).mono ?_; rintro e w2 ⟨rfl, b2⟩; rw [HQ.out]; have HS := Lib.hid (HS.out.step b2); clear b2; have q2 := q1; clear q1))
      | (have _t := q2; go_at_call 11; clear _t; go_loud (refine (rloose_b B d p m _ (HS.out.get (by simp)) HP.out).mono ?_; rintro e w3 ⟨rfl, b3⟩; rw [HR.out]; have HS := Lib.hid (HS.out.step b3); clear b3; have q3 := q2; clear q2)))
    go_ret
    exact ⟨rfl, HS.out.1⟩
set_option maxRecDepth 100000 in
set_option maxHeartbeats 6400000 in
theorem canonjust_main (A B : Option Addr) (c d n p j : Nat) (l m : List Nd) (w : World) (h : Ns w A c l) (g : Ns w B d m) (hn : l.length = n) (hp : m.length = p) (hn6 : n ≤ 60) (hp6 : p ≤ 60) (hA : A = none → c = 0) (hB : B = none → d = 0) (hl : looseB l = true) (hm : looseB m = true) (hj : j ≤ n) :
    Calls Try.prog 4 #[.slice A n c, .slice B p d, .int .i64 (j : Int)] w fun e w' => e = .returned (.bool true) ∧ Below w.heap.size w w' := by
  have HS := Lib.hid (((Al.start w).addN h).addN g)
  have HN := Lib.hid hn
  have HP := Lib.hid hp
  have HA := Lib.hid hA
  have HB := Lib.hid hB
  have HQ := Lib.hid hl
  have HR := Lib.hid hm
  obtain ⟨hq1, he1⟩ := ofQ_yes hl (n := j) (by omega)
  have hqd := ofL_quad hl (n := j) (by omega)
  have hself := ofL_self hl (n := j) (by omega)
  have hlen := ofL_len hl (n := j) (by omega)
  have hnest := nest_of hm hl (n := j) (by omega)
  obtain ⟨q, hq⟩ : ∃ q, q = OfL l j := ⟨_, rfl⟩
  rw [← hq] at hq1 hqd hself hlen hnest
  obtain ⟨qn, hqn⟩ : ∃ qn, qn = q.length := ⟨_, rfl⟩
  rw [← hqn] at hself hlen
  obtain ⟨hq2, he2⟩ := ofQ_yes (quad_loose hqd) (n := qn) (by omega)
  rw [hself] at hq2
  have hTl := nest_len m l
  have hTL := nest_loose hm hl
  obtain ⟨T, hT⟩ : ∃ T, T = nestL m l := ⟨_, rfl⟩
  rw [← hT] at hTl hTL hnest
  have hkk : (if 0 < j then m.length + j else 0) ≤ T.length := by
    rw [hTl]
    split <;> omega
  obtain ⟨hq3, he3⟩ := ofQ_yes hTL hkk
  rw [hnest] at hq3
  have H1 := Lib.hid hq1
  have E1 := Lib.hid he1
  have H2 := Lib.hid hq2
  have E2 := Lib.hid he2
  have H3 := Lib.hid hq3
  have E3 := Lib.hid he3
  have HQN := Lib.hid hqn
  have HTT := Lib.hid hT
  have hTn : T.length = p + n := by rw [hTl, hp, hn]
  have HTN := Lib.hid hTn
  have j0 : decide ((j : Int) < 0) = false := decide_eq_false (by omega)
  have j1 : decide ((n : Int) < (j : Int)) = false := decide_eq_false (by omega)
  have q0 : True := trivial
  have hcq : qn ≤ 1388 := by omega
  clear h g hA hB hl hm hq1 he1 hqd hself hlen hnest hq2 he2 hTl hTL hT hkk hq3 he3 hqn hq hTn hn
  by_cases hj0 : j = 0
  · subst hj0
    have H3' := Lib.hid (show ofQ T 0 = q from H3.out)
    have E3' := Lib.hid (show ofE T 0 = 0 from E3.out)
    clear hp
    go_enter Try.func4, Try.ntmps4
    go_wp2_with (first
      | (have _t := q0; go_at_call 5; clear _t; go_loud (refine (alive6_any _).mono ?_; rintro e w1 ⟨rfl, b1⟩; have HS := Lib.hid (HS.out.step b1); clear b1; have q1 := q0; clear q0))
      | (have _t := q1; go_at_call 11; clear _t; go_loud (refine (rloose_b A c n l _ (HS.out.getN (by simp)) HN.out).mono ?_; rintro e w2 ⟨rfl, b2⟩; rw [HQ.out]; have HS := Lib.hid (HS.out.step b2); clear b2; have q2 := q1; clear q1))
      | (have _t := q2; go_at_call 11; clear _t; go_loud (refine (rloose_b B d p m _ (HS.out.getN (by simp)) HP.out).mono ?_; rintro e w3 ⟨rfl, b3⟩; rw [HR.out]; have HS := Lib.hid (HS.out.step b3); clear b3; have q3 := q2; clear q2))
      | (have _t := q3; go_at_call 6; clear _t; go_loud (refine (pof_at A c n l 0 q qn 0 _ (HS.out.getN (A := A) (c := c) (l := l) (by simp)) HN.out (by omega) HA.out H1.out HQN.out.symm E1.out).mono ?_; rintro e w4 ⟨A4, c4, rfl, n4, a4, b4⟩; have HA4 := Lib.hid a4; have HS := Lib.hid (((HS.out.step b4).addN n4).addB (.slice A4 qn c4)); clear n4 a4 b4; have k7 := HS.out.getB (g := w4.heap.size) (v := .slice A4 qn c4) (by simp); have q4 := q3; clear q3))
      | (have _t := q4; go_at_call 6; clear _t; go_loud (refine (pof_at A4 c4 qn q (qn : Int) q qn 0 _ (HS.out.getN (A := A4) (c := c4) (l := q) (by simp)) HQN.out.symm (by omega) HA4.out H2.out HQN.out.symm E2.out).mono ?_; rintro e w5 ⟨A5, c5, rfl, n5, -, b5⟩; have HS := Lib.hid (((HS.out.step b5).addN n5).addB (.slice A5 qn c5)); clear n5 b5; have q5 := q4; clear q4))
      | (have _t := q5; go_at_call 12; clear _t; go_loud (refine (rnest_any B A d c p n m l _ (HS.out.getN (A := B) (c := d) (l := m) (by simp)) (HS.out.getN (A := A) (c := c) (l := l) (by simp)) HP.out HN.out (by omega) (by omega) HB.out HQ.out).mono ?_; rintro e w6 ⟨v6, rfl, o6, b6⟩; rw [← HTT.out] at o6; obtain ⟨A6, c6, hv6, n6, a6, -⟩ := o6.shape; rw [HTN.out] at hv6; subst hv6; have HA6 := Lib.hid a6; have HS := Lib.hid ((HS.out.step b6).addN n6); clear o6 n6 a6 b6; have q6 := q5; clear q5))
      | (have _t := q6; go_at_call 6; clear _t; go_loud (refine (pof_at A6 c6 (p + n) T 0 q qn 0 _ (HS.out.getN (A := A6) (c := c6) (l := T) (by simp)) HTN.out (by omega) HA6.out H3'.out HQN.out.symm E3'.out).mono ?_; rintro e w7 ⟨A7, c7, rfl, n7, -, b7⟩; have HS := Lib.hid (((HS.out.step b7).addN n7).addB (.slice A7 qn c7)); clear n7 b7; have k9 := HS.out.getB (g := w5.heap.size) (v := .slice A5 qn c5) (by simp); have k7' := HS.out.getB (g := w4.heap.size) (v := .slice A4 qn c4) (by simp); have q7 := q6; clear q6))
      | (have _t := q7; go_at_call 8; clear _t; go_loud (refine (rsame_any A5 A4 c5 c4 qn qn q q _ (HS.out.getN (A := A5) (c := c5) (l := q) (by simp)) (HS.out.getN (A := A4) (c := c4) (l := q) (by simp)) HQN.out.symm HQN.out.symm).mono ?_; rintro e w8 ⟨rfl, b8⟩; rw [decide_eq_true (rfl : q = q)]; have HS := Lib.hid (HS.out.step b8); clear b8; have k12 := HS.out.getB (g := w7.heap.size) (v := .slice A7 qn c7) (by simp); have k7'' := HS.out.getB (g := w4.heap.size) (v := .slice A4 qn c4) (by simp); have q8 := q7; clear q7))
      | (have _t := q8; go_at_call 8; clear _t; go_loud (refine (rsame_any A7 A4 c7 c4 qn qn q q _ (HS.out.getN (A := A7) (c := c7) (l := q) (by simp)) (HS.out.getN (A := A4) (c := c4) (l := q) (by simp)) HQN.out.symm HQN.out.symm).mono ?_; rintro e w9 ⟨rfl, b9⟩; rw [decide_eq_true (rfl : q = q)]; have HS := Lib.hid (HS.out.step b9); clear b9; have q9 := q8; clear q8)))
    go_ret
    exact ⟨rfl, HS.out.sn.1⟩
  · have H3' := Lib.hid (show ofQ T ((j : Int) + (p : Int)) = q by have h := H3.out; rw [if_pos (by omega), hp, show ((p + j : Nat) : Int) = (j : Int) + (p : Int) by omega] at h; exact h)
    have E3' := Lib.hid (show ofE T ((j : Int) + (p : Int)) = 0 by have h := E3.out; rw [if_pos (by omega), hp, show ((p + j : Nat) : Int) = (j : Int) + (p : Int) by omega] at h; exact h)
    have j2 : decide ((0 : Int) < (j : Int)) = true := decide_eq_true (by omega)
    clear hp
    go_enter Try.func4, Try.ntmps4
    go_wp2_with (first
      | (have _t := q0; go_at_call 5; clear _t; go_loud (refine (alive6_any _).mono ?_; rintro e w1 ⟨rfl, b1⟩; have HS := Lib.hid (HS.out.step b1); clear b1; have q1 := q0; clear q0))
      | (have _t := q1; go_at_call 11; clear _t; go_loud (refine (rloose_b A c n l _ (HS.out.getN (by simp)) HN.out).mono ?_; rintro e w2 ⟨rfl, b2⟩; rw [HQ.out]; have HS := Lib.hid (HS.out.step b2); clear b2; have q2 := q1; clear q1))
      | (have _t := q2; go_at_call 11; clear _t; go_loud (refine (rloose_b B d p m _ (HS.out.getN (by simp)) HP.out).mono ?_; rintro e w3 ⟨rfl, b3⟩; rw [HR.out]; have HS := Lib.hid (HS.out.step b3); clear b3; have q3 := q2; clear q2))
      | (have _t := q3; go_at_call 6; clear _t; go_loud (refine (pof_at A c n l (j : Int) q qn 0 _ (HS.out.getN (A := A) (c := c) (l := l) (by simp)) HN.out (by omega) HA.out H1.out HQN.out.symm E1.out).mono ?_; rintro e w4 ⟨A4, c4, rfl, n4, a4, b4⟩; have HA4 := Lib.hid a4; have HS := Lib.hid (((HS.out.step b4).addN n4).addB (.slice A4 qn c4)); clear n4 a4 b4; have k7 := HS.out.getB (g := w4.heap.size) (v := .slice A4 qn c4) (by simp); have q4 := q3; clear q3))
      | (have _t := q4; go_at_call 6; clear _t; go_loud (refine (pof_at A4 c4 qn q (qn : Int) q qn 0 _ (HS.out.getN (A := A4) (c := c4) (l := q) (by simp)) HQN.out.symm (by omega) HA4.out H2.out HQN.out.symm E2.out).mono ?_; rintro e w5 ⟨A5, c5, rfl, n5, -, b5⟩; have HS := Lib.hid (((HS.out.step b5).addN n5).addB (.slice A5 qn c5)); clear n5 b5; have q5 := q4; clear q4))
      | (have _t := q5; go_at_call 12; clear _t; go_loud (refine (rnest_any B A d c p n m l _ (HS.out.getN (A := B) (c := d) (l := m) (by simp)) (HS.out.getN (A := A) (c := c) (l := l) (by simp)) HP.out HN.out (by omega) (by omega) HB.out HQ.out).mono ?_; rintro e w6 ⟨v6, rfl, o6, b6⟩; rw [← HTT.out] at o6; obtain ⟨A6, c6, hv6, n6, a6, -⟩ := o6.shape; rw [HTN.out] at hv6; subst hv6; have HA6 := Lib.hid a6; have HS := Lib.hid ((HS.out.step b6).addN n6); clear o6 n6 a6 b6; have q6 := q5; clear q5))
      | (have _t := q6; go_at_call 6; clear _t; go_loud (refine (pof_at A6 c6 (p + n) T ((j : Int) + (p : Int)) q qn 0 _ (HS.out.getN (A := A6) (c := c6) (l := T) (by simp)) HTN.out (by omega) HA6.out H3'.out HQN.out.symm E3'.out).mono ?_; rintro e w7 ⟨A7, c7, rfl, n7, -, b7⟩; have HS := Lib.hid (((HS.out.step b7).addN n7).addB (.slice A7 qn c7)); clear n7 b7; have k9 := HS.out.getB (g := w5.heap.size) (v := .slice A5 qn c5) (by simp); have k7' := HS.out.getB (g := w4.heap.size) (v := .slice A4 qn c4) (by simp); have q7 := q6; clear q6))
      | (have _t := q7; go_at_call 8; clear _t; go_loud (refine (rsame_any A5 A4 c5 c4 qn qn q q _ (HS.out.getN (A := A5) (c := c5) (l := q) (by simp)) (HS.out.getN (A := A4) (c := c4) (l := q) (by simp)) HQN.out.symm HQN.out.symm).mono ?_; rintro e w8 ⟨rfl, b8⟩; rw [decide_eq_true (rfl : q = q)]; have HS := Lib.hid (HS.out.step b8); clear b8; have k12 := HS.out.getB (g := w7.heap.size) (v := .slice A7 qn c7) (by simp); have k7'' := HS.out.getB (g := w4.heap.size) (v := .slice A4 qn c4) (by simp); have q8 := q7; clear q7))
      | (have _t := q8; go_at_call 8; clear _t; go_loud (refine (rsame_any A7 A4 c7 c4 qn qn q q _ (HS.out.getN (A := A7) (c := c7) (l := q) (by simp)) (HS.out.getN (A := A4) (c := c4) (l := q) (by simp)) HQN.out.symm HQN.out.symm).mono ?_; rintro e w9 ⟨rfl, b9⟩; rw [decide_eq_true (rfl : q = q)]; have HS := Lib.hid (HS.out.step b9); clear b9; have q9 := q8; clear q8)))
    go_ret
    exact ⟨rfl, HS.out.sn.1⟩
theorem canonjust_any (A B : Option Addr) (c d : Nat) (k : Int) (l m : List Nd) (w : World) (h : Ns w A c l) (g : Ns w B d m) (hA : A = none → c = 0) (hB : B = none → d = 0) :
    Calls Try.prog 4 #[.slice A l.length c, .slice B m.length d, .int .i64 k] w fun e w' => e = .returned (.bool true) ∧ Below w.heap.size w w' := by
  have h1 := h.cap
  have h2 := g.cap
  rcases (show 60 < l.length ∨ (l.length ≤ 60 ∧ 60 < m.length) ∨ (l.length ≤ 60 ∧ m.length ≤ 60) by omega) with h3 | h3 | h3
  · exact canonjust_great A B c d _ _ k w (.inl h3) (by omega) (by omega)
  · exact canonjust_great A B c d _ _ k w (.inr h3) (by omega) (by omega)
  · cases hl : looseB l with
    | false => exact canonjust_not A B c d _ _ k l m w h g rfl rfl h3.1 h3.2 (.inl hl)
    | true =>
      cases hm : looseB m with
      | false => exact canonjust_not A B c d _ _ k l m w h g rfl rfl h3.1 h3.2 (.inr (.inl ⟨hl, hm⟩))
      | true =>
        by_cases hk0 : k < 0
        · exact canonjust_not A B c d _ _ k l m w h g rfl rfl h3.1 h3.2 (.inr (.inr (.inl ⟨hl, hm, hk0⟩)))
        · by_cases hk : (l.length : Int) < k
          · exact canonjust_not A B c d _ _ k l m w h g rfl rfl h3.1 h3.2 (.inr (.inr (.inr ⟨hl, hm, by omega, hk⟩)))
          · obtain ⟨j, rfl⟩ : ∃ j : Nat, k = j := ⟨k.toNat, by omega⟩
            exact canonjust_main A B c d _ _ j l m w h g rfl rfl h3.1 h3.2 hA hB hl hm (by omega)
end Go.Proofs.Ytbcolelgbbmjkaa
