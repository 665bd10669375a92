/-
  NodeTells holds of every input: the walk.
-/
import Derived.Test.YtilhnnbmplnnpaaNdAlive
import Derived.Test.YtilhnnbmplnnpaaNdOwn

namespace Go.Proofs.Ytilhnnbmplnnpaa
set_option linter.unusedVariables false
set_option linter.unusedSimpArgs false
open Go.RowKit Nds
theorem rloose_bl (A : Option Addr) (c n : Nat) (l : List Nd) (w : World) (h : Ns w A c l) (hn : l.length = n) :
    Calls Try.prog 8 #[.slice A n c] w fun e w' => e = .returned (.bool (looseB l)) ∧ Below w.heap.size w w' :=
  (rloose_at A c n l w h hn).mono fun _ _ ⟨he, hw⟩ => ⟨he, drewN_below hw⟩
theorem rnodes_bl (A B : Option Addr) (c d n p : Nat) (l m : List Nd) (w : World) (h : Ns w A c l) (k : Ns w B d m) (hn : l.length = n) (hp : m.length = p) :
    Calls Try.prog 12 #[.slice A n c, .slice B p d] w fun e w' => e = .returned (.bool (decide (l = m))) ∧ Below w.heap.size w w' :=
  (rnodes_any A B c d n p l m w h k hn hp).mono fun _ _ ⟨he, hw⟩ => ⟨he, drewN_below hw⟩
set_option maxRecDepth 100000 in
set_option maxHeartbeats 3200000 in
theorem nodetells_great (A B : Option Addr) (c d n p : Nat) (k : Int) (w : World) (h : 60 < n ∨ (n ≤ 60 ∧ 60 < p)) (hn : n ≤ 9223372036854775807) (hp : p ≤ 9223372036854775807) :
    Calls Try.prog 3 #[.slice A n c, .slice B p d, .int .i64 k] w fun e w' => e = .returned (.bool true) ∧ Below w.heap.size w w' := by
  rcases h with h | ⟨h2, h⟩
  all_goals
    go_enter Try.func3, Try.ntmps3
    go_wp2_with (go_at_call 6; refine (alive5_any _).mono ?_; rintro e w1 ⟨rfl, b1⟩; have B1 := Lib.hid b1; clear b1)
    go_ret
    exact ⟨rfl, B1.out⟩
/- main -/
/- main -/
set_option maxRecDepth 100000 in
set_option maxHeartbeats 6400000 in
theorem nodetells_not (A B : Option Addr) (c d n p : Nat) (k : Int) (l m : List Nd) (w : World) (h : Ns w A c l) (g : Ns w B d m) (hn : l.length = n) (hp : m.length = p) (hn6 : n ≤ 60) (hp6 : p ≤ 60) (hA : A = none → c = 0) (hq : looseB l = false) :
    Calls Try.prog 3 #[.slice A n c, .slice B p d, .int .i64 k] w fun e w' => e = .returned (.bool true) ∧ Below w.heap.size w w' := by
  have HS := Lib.hid (((Sn.start w).add h).add g)
  have HN := Lib.hid hn
  have HP := Lib.hid hp
  have HA := Lib.hid hA
  have HQ := Lib.hid hq
  have q0 : True := trivial
  clear h g hn hp hA hq
  go_enter Try.func3, Try.ntmps3
  go_wp2_with (first
    | (have _t := q0; go_at_call 6; clear _t; go_loud (refine (alive5_any _).mono ?_; rintro e w1 ⟨rfl, b1⟩; have HS := Lib.hid (HS.out.step b1); clear b1; have q1 := q0; clear q0))
    | (have _t := q1; at_builtin; clear _t; go_loud (refine wpList_append_nodes _ rfl _ _ rfl w1.heap.size _ [] l A n c rfl rfl (OwnN.start _) ((HS.out.alloc _).get (by simp)) HN.out HA.out (by simp; omega) (by simp) ?_; intro v2 w2 ho2 hg2 hk2; rw [List.nil_append] at ho2; obtain ⟨A2, c2, hv2, hn2, hA2, hB2⟩ := ho2.shape; rw [HN.out] at hv2; subst hv2; have HS := Lib.hid ((HS.out.step (((Below.refl _ w1).alloc (Nat.le_refl _) _).grown hg2 (by simp) (fun k hk => by cases hk; exact Nat.le_refl _))).add hn2); clear ho2 hg2 hk2 hn2 hA2 hB2; have q2 := q1; clear q1))
    | (have _t := q2; go_at_call 7; clear _t; go_loud (refine (loose_at _ _ n l _ (HS.out.get (A := A2) (by simp)) HN.out).mono ?_; rintro e w3 ⟨rfl, b1⟩; have HS := Lib.hid (HS.out.step b1); clear b1; have q3 := q2; clear q2))
    | (have _t := q3; go_at_call 8; clear _t; go_loud (refine (rloose_bl _ _ n l _ (HS.out.get (A := A) (by simp)) HN.out).mono ?_; rintro e w4 ⟨rfl, b1⟩; have HS := Lib.hid (HS.out.step b1); clear b1; have q4 := q3; clear q3))
    | (have _t := q4; go_at_call 9; clear _t; go_loud (refine (nright_any _ _ n l _ (HS.out.get (A := A2) (by simp)) HN.out (by omega)).mono ?_; rintro e w5 ⟨rfl, b1⟩; have HS := Lib.hid (HS.out.step b1); clear b1; have q5 := q4; clear q4))
    | (have _t := q5; go_at_call 10; clear _t; go_loud (refine (rright_any _ _ n l _ (HS.out.get (A := A) (by simp)) HN.out (by omega)).mono ?_; rintro e w6 ⟨rfl, b1⟩; have HS := Lib.hid (HS.out.step b1); clear b1; have q6 := q5; clear q5))
    | (have _t := q6; go_at_call 11; clear _t; go_loud (refine (nsame_any _ _ _ _ n p l m _ (HS.out.get (A := A) (by simp)) (HS.out.get (A := B) (by simp)) HN.out HP.out).mono ?_; rintro e w7 ⟨rfl, b1⟩; have HS := Lib.hid (HS.out.step b1); clear b1; have q7 := q6; clear q6))
    | (have _t := q7; go_at_call 12; clear _t; go_loud (refine (rnodes_bl _ _ _ _ n p l m _ (HS.out.get (A := A) (by simp)) (HS.out.get (A := B) (by simp)) HN.out HP.out).mono ?_; rintro e w8 ⟨rfl, b1⟩; have HS := Lib.hid (HS.out.step b1); clear b1; have q8 := q7; clear q7))
    | (have _t := q8; go_at_call 12; clear _t; go_loud (refine (rnodes_bl _ _ _ _ n n l l _ (HS.out.get (A := A2) (by simp)) (HS.out.get (A := A) (by simp)) HN.out HN.out).mono ?_; rintro e w9 ⟨rfl, b1⟩; have HS := Lib.hid (HS.out.step b1); clear b1; rw [decide_eq_true (rfl : l = l)]; have q9 := q8; clear q8))
    | (have _t := q9; go_at_call 8; clear _t; go_loud (refine (rloose_bl _ _ n l _ (HS.out.get (A := A) (by simp)) HN.out).mono ?_; rintro e w10 ⟨rfl, b1⟩; have HS := Lib.hid (HS.out.step b1); clear b1; rw [HQ.out]; have q10 := q9; clear q9)))
  go_ret
  exact ⟨rfl, HS.out.1⟩
set_option maxRecDepth 100000 in
set_option maxHeartbeats 6400000 in
theorem nodetells_far (A B : Option Addr) (c d n p : Nat) (k : Int) (l m : List Nd) (w : World) (h : Ns w A c l) (g : Ns w B d m) (hn : l.length = n) (hp : m.length = p) (hn6 : n ≤ 60) (hp6 : p ≤ 60) (hA : A = none → c = 0) (hq : looseB l = true) (hk : k < 0 ∨ (0 ≤ k ∧ (n : Int) < k)) :
    Calls Try.prog 3 #[.slice A n c, .slice B p d, .int .i64 k] w fun e w' => e = .returned (.bool true) ∧ Below w.heap.size w w' := by
  have HS := Lib.hid (((Sn.start w).add h).add g)
  have HN := Lib.hid hn
  have HP := Lib.hid hp
  have HA := Lib.hid hA
  have HQ := Lib.hid hq
  have q0 : True := trivial
  clear h g hn hp hA hq
  rcases hk with hk | ⟨hk2, hk⟩
  all_goals
    go_enter Try.func3, Try.ntmps3
    go_wp2_with (first
      | (have _t := q0; go_at_call 6; clear _t; go_loud (refine (alive5_any _).mono ?_; rintro e w1 ⟨rfl, b1⟩; have HS := Lib.hid (HS.out.step b1); clear b1; have q1 := q0; clear q0))
      | (have _t := q1; at_builtin; clear _t; go_loud (refine wpList_append_nodes _ rfl _ _ rfl w1.heap.size _ [] l A n c rfl rfl (OwnN.start _) ((HS.out.alloc _).get (by simp)) HN.out HA.out (by simp; omega) (by simp) ?_; intro v2 w2 ho2 hg2 hk2; rw [List.nil_append] at ho2; obtain ⟨A2, c2, hv2, hn2, hA2, hB2⟩ := ho2.shape; rw [HN.out] at hv2; subst hv2; have HS := Lib.hid ((HS.out.step (((Below.refl _ w1).alloc (Nat.le_refl _) _).grown hg2 (by simp) (fun k hk => by cases hk; exact Nat.le_refl _))).add hn2); clear ho2 hg2 hk2 hn2 hA2 hB2; have q2 := q1; clear q1))
      | (have _t := q2; go_at_call 7; clear _t; go_loud (refine (loose_at _ _ n l _ (HS.out.get (A := A2) (by simp)) HN.out).mono ?_; rintro e w3 ⟨rfl, b1⟩; have HS := Lib.hid (HS.out.step b1); clear b1; have q3 := q2; clear q2))
      | (have _t := q3; go_at_call 8; clear _t; go_loud (refine (rloose_bl _ _ n l _ (HS.out.get (A := A) (by simp)) HN.out).mono ?_; rintro e w4 ⟨rfl, b1⟩; have HS := Lib.hid (HS.out.step b1); clear b1; have q4 := q3; clear q3))
      | (have _t := q4; go_at_call 9; clear _t; go_loud (refine (nright_any _ _ n l _ (HS.out.get (A := A2) (by simp)) HN.out (by omega)).mono ?_; rintro e w5 ⟨rfl, b1⟩; have HS := Lib.hid (HS.out.step b1); clear b1; have q5 := q4; clear q4))
      | (have _t := q5; go_at_call 10; clear _t; go_loud (refine (rright_any _ _ n l _ (HS.out.get (A := A) (by simp)) HN.out (by omega)).mono ?_; rintro e w6 ⟨rfl, b1⟩; have HS := Lib.hid (HS.out.step b1); clear b1; have q6 := q5; clear q5))
      | (have _t := q6; go_at_call 11; clear _t; go_loud (refine (nsame_any _ _ _ _ n p l m _ (HS.out.get (A := A) (by simp)) (HS.out.get (A := B) (by simp)) HN.out HP.out).mono ?_; rintro e w7 ⟨rfl, b1⟩; have HS := Lib.hid (HS.out.step b1); clear b1; have q7 := q6; clear q6))
      | (have _t := q7; go_at_call 12; clear _t; go_loud (refine (rnodes_bl _ _ _ _ n p l m _ (HS.out.get (A := A) (by simp)) (HS.out.get (A := B) (by simp)) HN.out HP.out).mono ?_; rintro e w8 ⟨rfl, b1⟩; have HS := Lib.hid (HS.out.step b1); clear b1; have q8 := q7; clear q7))
      | (have _t := q8; go_at_call 12; clear _t; go_loud (refine (rnodes_bl _ _ _ _ n n l l _ (HS.out.get (A := A2) (by simp)) (HS.out.get (A := A) (by simp)) HN.out HN.out).mono ?_; rintro e w9 ⟨rfl, b1⟩; have HS := Lib.hid (HS.out.step b1); clear b1; rw [decide_eq_true (rfl : l = l)]; have q9 := q8; clear q8))
      | (have _t := q9; go_at_call 8; clear _t; go_loud (refine (rloose_bl _ _ n l _ (HS.out.get (A := A) (by simp)) HN.out).mono ?_; rintro e w10 ⟨rfl, b1⟩; have HS := Lib.hid (HS.out.step b1); clear b1; rw [HQ.out]; have q10 := q9; clear q9)))
    go_ret
    exact ⟨rfl, HS.out.1⟩
set_option maxRecDepth 100000 in
set_option maxHeartbeats 6400000 in
theorem nodetells_main (A B : Option Addr) (c d n p : Nat) (k : Nat) (l m : List Nd) (w : World) (h : Ns w A c l) (g : Ns w B d m) (hn : l.length = n) (hp : m.length = p) (hn6 : n ≤ 60) (hp6 : p ≤ 60) (hA : A = none → c = 0) (hq : looseB l = true) (hkn : k ≤ n) :
    Calls Try.prog 3 #[.slice A n c, .slice B p d, .int .i64 (k : Int)] w fun e w' => e = .returned (.bool true) ∧ Below w.heap.size w w' := by
  have HS := Lib.hid (((Sn.start w).add h).add g)
  have HN := Lib.hid hn
  have HP := Lib.hid hp
  have HA := Lib.hid hA
  have HQ := Lib.hid hq
  have k0 : (0 : Int) ≤ (k : Int) := by omega
  have k1 : (k : Int) ≤ (n : Int) := by omega
  have q0 : True := trivial
  clear h g hn hp hA hq
  go_enter Try.func3, Try.ntmps3
  go_wp2_with (first
    | (have _t := q0; go_at_call 6; clear _t; go_loud (refine (alive5_any _).mono ?_; rintro e w1 ⟨rfl, b1⟩; have HS := Lib.hid (HS.out.step b1); clear b1; have q1 := q0; clear q0))
    | (have _t := q1; at_builtin; clear _t; go_loud (refine wpList_append_nodes _ rfl _ _ rfl w1.heap.size _ [] l A n c rfl rfl (OwnN.start _) ((HS.out.alloc _).get (by simp)) HN.out HA.out (by simp; omega) (by simp) ?_; intro v2 w2 ho2 hg2 hk2; rw [List.nil_append] at ho2; obtain ⟨A2, c2, hv2, hn2, hA2, hB2⟩ := ho2.shape; rw [HN.out] at hv2; subst hv2; have HS := Lib.hid ((HS.out.step (((Below.refl _ w1).alloc (Nat.le_refl _) _).grown hg2 (by simp) (fun k hk => by cases hk; exact Nat.le_refl _))).add hn2); clear ho2 hg2 hk2 hn2 hA2 hB2; have q2 := q1; clear q1))
    | (have _t := q2; go_at_call 7; clear _t; go_loud (refine (loose_at _ _ n l _ (HS.out.get (A := A2) (by simp)) HN.out).mono ?_; rintro e w3 ⟨rfl, b1⟩; have HS := Lib.hid (HS.out.step b1); clear b1; have q3 := q2; clear q2))
    | (have _t := q3; go_at_call 8; clear _t; go_loud (refine (rloose_bl _ _ n l _ (HS.out.get (A := A) (by simp)) HN.out).mono ?_; rintro e w4 ⟨rfl, b1⟩; have HS := Lib.hid (HS.out.step b1); clear b1; have q4 := q3; clear q3))
    | (have _t := q4; go_at_call 9; clear _t; go_loud (refine (nright_any _ _ n l _ (HS.out.get (A := A2) (by simp)) HN.out (by omega)).mono ?_; rintro e w5 ⟨rfl, b1⟩; have HS := Lib.hid (HS.out.step b1); clear b1; have q5 := q4; clear q4))
    | (have _t := q5; go_at_call 10; clear _t; go_loud (refine (rright_any _ _ n l _ (HS.out.get (A := A) (by simp)) HN.out (by omega)).mono ?_; rintro e w6 ⟨rfl, b1⟩; have HS := Lib.hid (HS.out.step b1); clear b1; have q6 := q5; clear q5))
    | (have _t := q6; go_at_call 11; clear _t; go_loud (refine (nsame_any _ _ _ _ n p l m _ (HS.out.get (A := A) (by simp)) (HS.out.get (A := B) (by simp)) HN.out HP.out).mono ?_; rintro e w7 ⟨rfl, b1⟩; have HS := Lib.hid (HS.out.step b1); clear b1; have q7 := q6; clear q6))
    | (have _t := q7; go_at_call 12; clear _t; go_loud (refine (rnodes_bl _ _ _ _ n p l m _ (HS.out.get (A := A) (by simp)) (HS.out.get (A := B) (by simp)) HN.out HP.out).mono ?_; rintro e w8 ⟨rfl, b1⟩; have HS := Lib.hid (HS.out.step b1); clear b1; have q8 := q7; clear q7))
    | (have _t := q8; go_at_call 12; clear _t; go_loud (refine (rnodes_bl _ _ _ _ n n l l _ (HS.out.get (A := A2) (by simp)) (HS.out.get (A := A) (by simp)) HN.out HN.out).mono ?_; rintro e w9 ⟨rfl, b1⟩; have HS := Lib.hid (HS.out.step b1); clear b1; rw [decide_eq_true (rfl : l = l)]; have q9 := q8; clear q8))
    | (have _t := q9; go_at_call 8; clear _t; go_loud (refine (rloose_bl _ _ n l _ (HS.out.get (A := A) (by simp)) HN.out).mono ?_; rintro e w10 ⟨rfl, b1⟩; have HS := Lib.hid (HS.out.step b1); clear b1; rw [HQ.out]; have q10 := q9; clear q9))
    | (have _t := q10; go_at_call 13; clear _t; go_loud (refine (nempty_any _ _ n l k _ (HS.out.get (A := A) (by simp)) HN.out HQ.out hkn).mono ?_; rintro e w11 ⟨rfl, b1⟩; have HS := Lib.hid (HS.out.step b1); clear b1; have q11 := q10; clear q10))
    | (have _t := q11; go_at_call 14; clear _t; go_loud (refine (rempty_any _ _ n l k _ (HS.out.get (A := A) (by simp)) HN.out HQ.out (by omega) hkn).mono ?_; rintro e w12 ⟨rfl, b1⟩; have HS := Lib.hid (HS.out.step b1); clear b1; have q12 := q11; clear q11))
    | (have _t := q12; go_at_call 15; clear _t; go_loud (refine (hollow_any _ _ n l k _ (HS.out.get (A := A) (by simp)) HN.out HQ.out hkn).mono ?_; rintro e w13 ⟨rfl, b1⟩; have HS := Lib.hid (HS.out.step b1); clear b1; have q13 := q12; clear q12))
    | (have _t := q13; go_at_call 16; clear _t; go_loud (refine (rhollow_any _ _ n l k _ (HS.out.get (A := A) (by simp)) HN.out HQ.out (by omega) hkn).mono ?_; rintro e w14 ⟨rfl, b1⟩; have HS := Lib.hid (HS.out.step b1); clear b1; have q14 := q13; clear q13)))
  go_ret
  exact ⟨nd_b (by simp), HS.out.1⟩
theorem nodetells_any (A B : Option Addr) (c d : Nat) (k : Int) (l m : List Nd) (w : World) (h : Ns w A c l) (g : Ns w B d m) (hA : A = none → c = 0) (hk : in64 k) :
    Calls Try.prog 3 #[.slice A l.length c, .slice B m.length d, .int .i64 k] w fun e w' => e = .returned (.bool true) ∧ Below w.heap.size w w' := by
  have h1 := h.cap
  have h2 := g.cap
  rcases (show 60 < l.length ∨ (l.length ≤ 60 ∧ 60 < m.length) ∨ (l.length ≤ 60 ∧ m.length ≤ 60) by omega) with h3 | h3 | h3
  · exact nodetells_great A B c d _ _ k w (.inl h3) (by omega) (by omega)
  · exact nodetells_great A B c d _ _ k w (.inr h3) (by omega) (by omega)
  · cases hq : looseB l with
    | false => exact nodetells_not A B c d _ _ k l m w h g rfl rfl h3.1 h3.2 hA hq
    | true =>
      rcases (show (k < 0 ∨ (0 ≤ k ∧ (l.length : Int) < k)) ∨ (0 ≤ k ∧ k ≤ (l.length : Int)) by omega) with h4 | h4
      · exact nodetells_far A B c d _ _ k l m w h g rfl rfl h3.1 h3.2 hA hq h4
      · obtain ⟨j, rfl⟩ : ∃ j : Nat, k = j := ⟨k.toNat, by omega⟩
        exact nodetells_main A B c d _ _ j l m w h g rfl rfl h3.1 h3.2 hA hq (by omega)
end Go.Proofs.Ytilhnnbmplnnpaa
