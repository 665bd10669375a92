/-
  What the laws ask first: the document's example.
-/
import Derived.Test.YthkeehfoefjnfaaDiv
import Derived.Test.YthkeehfoefjnfaaLen
import Derived.Test.YthkeehfoefjnfaaSame
import Derived.Test.YthkeehfoefjnfaaNorm
import Derived.Test.YthkeehfoefjnfaaAdd
import Derived.Test.YthkeehfoefjnfaaRCmp
import Derived.Test.YthkeehfoefjnfaaShl
import Derived.Test.YthkeehfoefjnfaaMul
import Derived.Test.YthkeehfoefjnfaaBit
import Derived.Test.YthkeehfoefjnfaaRShl
import Derived.Test.YthkeehfoefjnfaaRAdd
import Derived.Test.YthkeehfoefjnfaaRSub
import Derived.Test.YthkeehfoefjnfaaRMul
import Derived.Test.YthkeehfoefjnfaaRDiv
namespace Go.Proofs.Ythkeehfoefjnfaa
set_option linter.unusedVariables false
set_option linter.unusedSimpArgs false
open Go.RowKit Num

/-- Slices that stand as they stood, and what lay below is as it was. -/
def St (w W : World) (l : List (Option Addr × Nat × List Nat)) : Prop := Below w.heap.size w W ∧ ∀ t ∈ l, Us W t.1 t.2.1 t.2.2
theorem St.start (w : World) : St w w [] := ⟨Below.refl _ _, by simp⟩
theorem St.get {w W : World} {l : List (Option Addr × Nat × List Nat)} (s : St w W l) {A : Option Addr} {c : Nat} {xs : List Nat} (h : (A, c, xs) ∈ l) : Us W A c xs := s.2 _ h
theorem St.step {w W W' : World} {l : List (Option Addr × Nat × List Nat)} (s : St w W l) (b : Below W.heap.size W W') : St w W' l :=
  ⟨s.1.trans (b.mono s.1.size), fun t ht => (s.2 t ht).below b⟩
theorem St.add {w W : World} {l : List (Option Addr × Nat × List Nat)} (s : St w W l) {A : Option Addr} {c : Nat} {xs : List Nat} (h : Us W A c xs) : St w W ((A, c, xs) :: l) :=
  ⟨s.1, fun t ht => by
    rcases List.mem_cons.1 ht with rfl | ht
    · exact h
    · exact s.2 t ht⟩
theorem St.call {w W W' : World} {l : List (Option Addr × Nat × List Nat)} (s : St w W l) (b : Below W.heap.size W W') {A : Option Addr} {c : Nat} {xs : List Nat} (h : Us W' A c xs) : St w W' ((A, c, xs) :: l) := (s.step b).add h
theorem St.alloc {w W : World} {l : List (Option Addr × Nat × List Nat)} (s : St w W l) (o : Obj) : St w (W.alloc o) l := s.step ((Below.refl _ W).alloc (Nat.le_refl _) o)
theorem us_lit1 (W : World) (g u : Nat) (hg : W.heap.size = g) (hu : u < 4294967296) : Us (W.alloc (.cells #[.int .u32 (u : Int)] 35)) (some ⟨g, 0, none⟩) 1 [u] := by
  subst hg
  refine ⟨Dig.cons hu Dig.nil, by simp, by simp [maxLen], fun _ => ⟨_, 0, rfl, by simp, fun j v hv => ?_⟩⟩
  have h := heap_alloc_new W (.cells #[.int .u32 (u : Int)] 35)
  rw [cell_of_row _ _ _ _ _ _ h]
  simp only [Nat.zero_add, List.map_cons, List.map_nil, List.getElem?_toArray] at hv ⊢
  exact hv
theorem us_lit2 (W : World) (g u v : Nat) (hg : W.heap.size = g) (hu : u < 4294967296) (hv : v < 4294967296) : Us (W.alloc (.cells #[.int .u32 (u : Int), .int .u32 (v : Int)] 35)) (some ⟨g, 0, none⟩) 2 [u, v] := by
  subst hg
  refine ⟨Dig.cons hu (Dig.cons hv Dig.nil), by simp, by simp [maxLen], fun _ => ⟨_, 0, rfl, by simp, fun j x hx => ?_⟩⟩
  have h := heap_alloc_new W (.cells #[.int .u32 (u : Int), .int .u32 (v : Int)] 35)
  rw [cell_of_row _ _ _ _ _ _ h]
  simp only [Nat.zero_add, List.map_cons, List.map_nil, List.getElem?_toArray] at hx ⊢
  exact hx
theorem St.lit1 {w W : World} {l : List (Option Addr × Nat × List Nat)} (s : St w W l) (g u : Nat) (hg : W.heap.size = g) (hu : u < 4294967296) :
    St w (W.alloc (.cells #[.int .u32 (u : Int)] 35)) ((some ⟨g, 0, none⟩, 1, [u]) :: l) := (s.alloc _).add (us_lit1 W g u hg hu)
theorem St.lit2 {w W : World} {l : List (Option Addr × Nat × List Nat)} (s : St w W l) (g u v : Nat) (hg : W.heap.size = g) (hu : u < 4294967296) (hv : v < 4294967296) :
    St w (W.alloc (.cells #[.int .u32 (u : Int), .int .u32 (v : Int)] 35)) ((some ⟨g, 0, none⟩, 2, [u, v]) :: l) := (s.alloc _).add (us_lit2 W g u v hg hu hv)

/-- The answer is this very number. -/
def IsU (zs : List Nat) (w : World) (e : Ending) (w' : World) : Prop := ∃ A c, e = .returned (.slice A zs.length c) ∧ Us w' A c zs ∧ Below w.heap.size w w'
theorem RetU.is {n : Nat} {w : World} {e : Ending} {w' : World} (h : RetU n w e w') (zs : List Nat) (hc : Canon zs) (hd : Dig zs) (hv : val zs = n) : IsU zs w e w' := by
  obtain ⟨A, c, rs, rfl, q, k, v, b⟩ := h
  obtain rfl := uniq q.1 hd k hc (v.trans hv.symm)
  exact ⟨A, c, rfl, q, b⟩
theorem RetD.is {n r : Nat} {w : World} {e : Ending} {w' : World} (h : RetD n r w e w') (zs : List Nat) (hc : Canon zs) (hd : Dig zs) (hv : val zs = n) :
    ∃ A c, e = .returned (.tuple #[.slice A zs.length c, .int .u32 (r : Int)]) ∧ Us w' A c zs ∧ Below w.heap.size w w' := by
  obtain ⟨A, c, rs, rfl, q, k, v, b⟩ := h
  obtain rfl := uniq q.1 hd k hc (v.trans hv.symm)
  exact ⟨A, c, rfl, q, b⟩

theorem RetS.yes {m n : Nat} {w : World} {e : Ending} {w' : World} (h : RetS m n w e w') (zs : List Nat) (hc : Canon zs) (hd : Dig zs) (hle : n ≤ m) (hv : val zs = m - n) :
    ∃ A c, e = .returned (.tuple #[.slice A zs.length c, .bool true]) ∧ Us w' A c zs ∧ Below w.heap.size w w' := by
  obtain ⟨A, c, rs, rfl, q, k, v, b⟩ := h.2 hle
  obtain rfl := uniq q.1 hd k hc (v.trans hv.symm)
  exact ⟨A, c, rfl, q, b⟩

set_option maxRecDepth 100000 in
set_option maxHeartbeats 3200000 in
theorem alive_any (w : World) : Calls Try.prog 10 #[] w fun e w' => e = .returned (.bool true) ∧ Below w.heap.size w w' := by
  go_enter Try.func10, Try.ntmps10
  have s0 := St.start w
  go_wp2_with (first
    | (go_at_call_of 11 (Value.slice (some ⟨w.heap.size, 0, none⟩) 2 2); (have s1 := s0.lit2 (w.heap.size) 1 1 (by simp) (by decide) (by decide); clear s0; have s2 := s1.lit1 (w.heap.size + 1) 2 (by simp) (by decide); clear s1; refine (sub_any _ _ _ _ [1, 1] [2] _ (s2.get (by simp)) (s2.get (by simp)) (by simp) (by simp)).mono ?_; intro e w1 h; have h' := RetS.yes h [4294967295] (by simp [Canon]) (Dig.cons (by decide) Dig.nil) (by decide) (by decide); clear h; obtain ⟨A1, c1, rfl, q, b⟩ := h'; have s3 := s2.call b q; clear q b s2; dsimp only [List.length_cons, List.length_nil, Nat.reduceAdd]))
    | (go_at_call_of 11 (Value.slice (some ⟨w1.heap.size, 0, none⟩) 1 1); (have s4 := s3.lit1 (w1.heap.size) 2 (by simp) (by decide); clear s3; refine (sub_any _ _ _ _ [2] [1, 1] _ (s4.get (by simp)) (s4.get (by simp)) (by simp) (by simp)).mono ?_; intro e w2 h; obtain ⟨rfl, b⟩ := h.1 (by decide); clear h; have s5 := s4.step b; clear b s4))
    | (go_at_call 30; (refine (div_yes _ _ [1, 1] 10 _ (s5.get (by simp)) (by simp) (by decide) (by decide)).mono ?_; intro e w3 h; have h' := h.is [429496729] (by simp [Canon]) (Dig.cons (by decide) Dig.nil) (by decide); clear h; obtain ⟨A3, c3, rfl, q, b⟩ := h'; rw [show val [1, 1] % 10 = 7 by decide]; have s6 := s5.call b q; clear q b s5; dsimp only [List.length_cons, List.length_nil, Nat.reduceAdd]))
    | (go_at_call 22; (refine (len_any _ _ [1, 1] _ (s6.get (by simp)) (by simp)).mono ?_; rintro e w4 ⟨rfl, b⟩; rw [show blen (val [1, 1]) = 33 from blen_eq (by decide) (.inr (by decide))]; have s7 := s6.step b; clear b s6))
    | (go_at_call_of 26 (Value.slice (some ⟨w.heap.size, 0, none⟩) 2 2); (refine (right_any _ _ [1, 1] _ (s7.get (by simp)) (by simp)).mono ?_; rintro e w' ⟨rfl, rfl⟩; rw [show rightB [1, 1] = true by decide]))
    | (go_at_call_of 26 (Value.slice (some ⟨w4.heap.size, 0, none⟩) 2 2); (have s8 := s7.lit2 (w4.heap.size) 1 0 (by simp) (by decide) (by decide); clear s7; refine (right_any _ _ [1, 0] _ (s8.get (by simp)) (by simp)).mono ?_; rintro e w' ⟨rfl, rfl⟩; rw [show rightB [1, 0] = false by decide]))
    | (go_at_call 28; (have s9 := s8.lit2 (w4.heap.size + 1) 1 0 (by simp) (by decide) (by decide); clear s8; refine (norm_any _ _ [1, 0] _ (s9.get (by simp)) (by simp)).mono ?_; intro e w5 h; have h' := h.is [1] (by simp [Canon]) (Dig.cons (by decide) Dig.nil) (by decide); clear h; obtain ⟨A5, c5, rfl, q, b⟩ := h'; have s10 := s9.call b q; clear q b s9; dsimp only [List.length_cons, List.length_nil, Nat.reduceAdd]))
    | (go_at_call_of 13 (Value.slice A5 1 c5); (have s11 := s10.lit1 (w5.heap.size) 1 (by simp) (by decide); clear s10; refine (same_any _ _ _ _ [1] [1] _ (s11.get (by simp)) (s11.get (by simp)) (by simp)).mono ?_; rintro e w6 ⟨rfl, b⟩; rw [decide_eq_true (show [1] = [1] from rfl)]; have s12 := s11.step b; clear b s11))
    | (go_at_call 14; (have s13 := s12.lit1 (w6.heap.size) 4294967295 (by simp) (by decide); clear s12; refine (add_any _ _ _ _ [1, 1] [4294967295] _ (s13.get (by simp)) (s13.get (by simp)) (by simp) (by simp)).mono ?_; intro e w7 h; have h' := h.is [0, 2] (by simp [Canon]) (Dig.cons (by decide) (Dig.cons (by decide) Dig.nil)) (by decide); clear h; obtain ⟨A7, c7, rfl, q, b⟩ := h'; have s14 := s13.call b q; clear q b s13; dsimp only [List.length_cons, List.length_nil, Nat.reduceAdd]))
    | (go_at_call_of 13 (Value.slice A7 2 c7); (have s15 := s14.lit2 (w7.heap.size) 0 2 (by simp) (by decide) (by decide); clear s14; refine (same_any _ _ _ _ [0, 2] [0, 2] _ (s15.get (by simp)) (s15.get (by simp)) (by simp)).mono ?_; rintro e w8 ⟨rfl, b⟩; rw [decide_eq_true (show [0, 2] = [0, 2] from rfl)]; have s16 := s15.step b; clear b s15))
    | (go_at_call_of 13 (Value.slice A1 1 c1); (have s17 := s16.lit1 (w8.heap.size) 4294967295 (by simp) (by decide); clear s16; refine (same_any _ _ _ _ [4294967295] [4294967295] _ (s17.get (by simp)) (s17.get (by simp)) (by simp)).mono ?_; rintro e w9 ⟨rfl, b⟩; rw [decide_eq_true (show [4294967295] = [4294967295] from rfl)]; have s18 := s17.step b; clear b s17))
    | (go_at_call 18; (have s19 := s18.lit1 (w9.heap.size) 3 (by simp) (by decide); clear s18; refine (shl_yes _ _ [3] 31 _ (s19.get (by simp)) (by simp) (by decide)).mono ?_; intro e w10 h; have h' := h.is [2147483648, 1] (by simp [Canon]) (Dig.cons (by decide) (Dig.cons (by decide) Dig.nil)) (by decide); clear h; obtain ⟨A10, c10, rfl, q, b⟩ := h'; have s20 := s19.call b q; clear q b s19; dsimp only [List.length_cons, List.length_nil, Nat.reduceAdd]))
    | (go_at_call_of 13 (Value.slice A10 2 c10); (have s21 := s20.lit2 (w10.heap.size) 2147483648 1 (by simp) (by decide) (by decide); clear s20; refine (same_any _ _ _ _ [2147483648, 1] [2147483648, 1] _ (s21.get (by simp)) (s21.get (by simp)) (by simp)).mono ?_; rintro e w11 ⟨rfl, b⟩; rw [decide_eq_true (show [2147483648, 1] = [2147483648, 1] from rfl)]; have s22 := s21.step b; clear b s21))
    | (go_at_call 20; (refine (shr_any _ _ [1, 1] 32 _ (s22.get (by simp)) (by simp) (by decide)).mono ?_; intro e w12 h; have h' := h.is [1] (by simp [Canon]) (Dig.cons (by decide) Dig.nil) (by decide); clear h; obtain ⟨A12, c12, rfl, q, b⟩ := h'; have s23 := s22.call b q; clear q b s22; dsimp only [List.length_cons, List.length_nil, Nat.reduceAdd]))
    | (go_at_call_of 13 (Value.slice A12 1 c12); (have s24 := s23.lit1 (w12.heap.size) 1 (by simp) (by decide); clear s23; refine (same_any _ _ _ _ [1] [1] _ (s24.get (by simp)) (s24.get (by simp)) (by simp)).mono ?_; rintro e w13 ⟨rfl, b⟩; rw [decide_eq_true (show [1] = [1] from rfl)]; have s25 := s24.step b; clear b s24))
    | (go_at_call_of 13 (Value.slice A3 1 c3); (have s26 := s25.lit1 (w13.heap.size) 429496729 (by simp) (by decide); clear s25; refine (same_any _ _ _ _ [429496729] [429496729] _ (s26.get (by simp)) (s26.get (by simp)) (by simp)).mono ?_; rintro e w14 ⟨rfl, b⟩; rw [decide_eq_true (show [429496729] = [429496729] from rfl)]; have s27 := s26.step b; clear b s26))
    | (go_at_call 32; (refine (mul_any _ _ [429496729] 10 7 _ (s27.get (by simp)) (by simp) (by decide) (by decide)).mono ?_; intro e w15 h; have h' := h.is [1, 1] (by simp [Canon]) (Dig.cons (by decide) (Dig.cons (by decide) Dig.nil)) (by decide); clear h; obtain ⟨A15, c15, rfl, q, b⟩ := h'; have s28 := s27.call b q; clear q b s27; dsimp only [List.length_cons, List.length_nil, Nat.reduceAdd]))
    | (go_at_call_of 13 (Value.slice A15 2 c15); (refine (same_any _ _ _ _ [1, 1] [1, 1] _ (s28.get (by simp)) (s28.get (by simp)) (by simp)).mono ?_; rintro e w16 ⟨rfl, b⟩; rw [decide_eq_true (show [1, 1] = [1, 1] from rfl)]; have s29 := s28.step b; clear b s28))
    | (go_at_call 24; (refine (bit_any _ _ [1, 1] _ _ (s29.get (by simp)) (by simp) (by decide)).mono ?_; rintro e w' ⟨rfl, rfl⟩; first | rw [show (decide ((0 : Int) ≤ 32) && (val [1, 1]).testBit (32 : Int).toNat) = true by decide] | rw [show (decide ((0 : Int) ≤ 31) && (val [1, 1]).testBit (31 : Int).toNat) = false by decide]))
    | (go_at_call 16; (refine (cmp_any _ _ _ _ [1, 1] [429496729] _ (s29.get (by simp)) (s29.get (by simp)) (by simp) (by simp)).mono ?_; rintro e w17 ⟨rfl, b⟩; rw [show cmpN (val [1, 1]) (val [429496729]) = 1 from by decide]; have s30 := s29.step b; clear b s29)))
  go_ret
  exact ⟨rfl, s30.1⟩

end Go.Proofs.Ythkeehfoefjnfaa
