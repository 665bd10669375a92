/-
  node: the laws' examples.
-/
import Derived.Test.YtilhnnbmplnnpaaNdRRight

namespace Go.Proofs.Ytilhnnbmplnnpaa
set_option linter.unusedVariables false
set_option linter.unusedSimpArgs false
open Go.RowKit Nds
def one5 : List Nd := [⟨1, 0, 0, 0, 1⟩]
def hol5 : List Nd := [⟨1, 0, 0, 0, 1⟩, ⟨2, 1, 0, 0, 0⟩]
def far5 : List Nd := [⟨1, 0, 0, 0, 1⟩, ⟨2, 0, 0, 0, 1⟩]
def nil5 : List Nd := [⟨1, 0, 0, 0, 0⟩]
def big5 : List Nd := [⟨1, 256, 0, 0, 0⟩]
theorem v_one : quadB one5 = true := by kernel_rfl
theorem v_lev : levelZ one5 = 1 := by kernel_rfl
theorem v_lol : looseB hol5 = true := by kernel_rfl
theorem v_hol : hollowB hol5 2 = true := by kernel_rfl
theorem v_rol : quadB hol5 = false := by kernel_rfl
theorem v_far : quadB far5 = true := by kernel_rfl
theorem v_lof : looseB far5 = true := by kernel_rfl
theorem v_hof : hollowB far5 2 = false := by kernel_rfl
theorem v_em0 : empB far5 0 = true := by kernel_rfl
theorem v_em2 : empB far5 2 = false := by kernel_rfl
theorem v_nil : looseB nil5 = true := by kernel_rfl
theorem v_nie : empB nil5 1 = true := by kernel_rfl
theorem v_big : looseB big5 = false := by kernel_rfl
theorem v_sam : decide (one5 = one5) = true := by kernel_rfl
theorem v_dif : decide (one5 = far5) = false := by kernel_rfl
theorem ns_lit1 (W : World) (g : Nat) (x : Nd) (hx : x.wf) (hg : W.heap.size = g) : Ns (W.alloc (.cells #[.int .i64 x.lv, .int .i64 x.a, .int .i64 x.b, .int .i64 x.c, .int .i64 x.d] 35)) (some ⟨g, 0, none⟩) 1 [x] := by
  subst hg
  refine ⟨by simpa using hx, by simp, by simp [maxLen], fun _ => ⟨_, 0, rfl, by simp, fun i hi => ?_⟩⟩
  have h0 : i = 0 := by simpa using hi
  subst h0
  exact NdAt.new W x _
theorem ns_lit2 (W : World) (g : Nat) (x y : Nd) (hx : x.wf) (hy : y.wf) (hg : W.heap.size = g) : Ns (W.alloc (.cells #[.int .i64 x.lv, .int .i64 x.a, .int .i64 x.b, .int .i64 x.c, .int .i64 x.d, .int .i64 y.lv, .int .i64 y.a, .int .i64 y.b, .int .i64 y.c, .int .i64 y.d] 35)) (some ⟨g, 0, none⟩) 2 [x, y] := by
  subst hg
  have h := heap_alloc_new W (.cells #[.int .i64 x.lv, .int .i64 x.a, .int .i64 x.b, .int .i64 x.c, .int .i64 x.d, .int .i64 y.lv, .int .i64 y.a, .int .i64 y.b, .int .i64 y.c, .int .i64 y.d] 35)
  refine ⟨fun z hz => ?_, by simp, by simp [maxLen], fun _ => ⟨_, 0, rfl, by simp, fun i hi => ?_⟩⟩
  · simp at hz
    rcases hz with rfl | rfl
    · exact hx
    · exact hy
  · match i, hi with
    | 0, _ => exact ⟨by rw [cell_of_row _ _ _ _ _ _ h]; rfl, by rw [cell_of_row _ _ _ _ _ _ h]; rfl, by rw [cell_of_row _ _ _ _ _ _ h]; rfl, by rw [cell_of_row _ _ _ _ _ _ h]; rfl, by rw [cell_of_row _ _ _ _ _ _ h]; rfl⟩
    | 1, _ => exact ⟨by rw [cell_of_row _ _ _ _ _ _ h]; rfl, by rw [cell_of_row _ _ _ _ _ _ h]; rfl, by rw [cell_of_row _ _ _ _ _ _ h]; rfl, by rw [cell_of_row _ _ _ _ _ _ h]; rfl, by rw [cell_of_row _ _ _ _ _ _ h]; rfl⟩
/-- The three lists that alive makes, later on. -/
def St5 (w W : World) (g : Nat) : Prop :=
  Below w.heap.size w W ∧ Ns W (some ⟨g, 0, none⟩) 1 one5 ∧ Ns W (some ⟨g + 1, 0, none⟩) 2 hol5 ∧ Ns W (some ⟨g + 1 + 1, 0, none⟩) 2 far5 ∧ w.heap.size ≤ W.heap.size
theorem St5.step {w W W' : World} {g : Nat} (s : St5 w W g) (b : Below W.heap.size W W') : St5 w W' g :=
  ⟨s.1.trans (b.mono s.1.size), s.2.1.below b, s.2.2.1.below b, s.2.2.2.1.below b, Nat.le_trans s.2.2.2.2 b.size⟩
theorem St5.alloc {w W : World} {g : Nat} (s : St5 w W g) (o : Obj) : St5 w (W.alloc o) g := s.step ((Below.refl _ W).alloc (Nat.le_refl _) o)
theorem St5.start (w : World) : St5 w (((w.alloc (.cells #[.int .i64 1, .int .i64 0, .int .i64 0, .int .i64 0, .int .i64 1] 35)).alloc (.cells #[.int .i64 1, .int .i64 0, .int .i64 0, .int .i64 0, .int .i64 1, .int .i64 2, .int .i64 1, .int .i64 0, .int .i64 0, .int .i64 0] 35)).alloc (.cells #[.int .i64 1, .int .i64 0, .int .i64 0, .int .i64 0, .int .i64 1, .int .i64 2, .int .i64 0, .int .i64 0, .int .i64 0, .int .i64 1] 35)) w.heap.size := by
  have i0 : in64 0 := in64_0
  have i1 : in64 1 := ⟨by omega, by omega⟩
  have i2 : in64 2 := ⟨by omega, by omega⟩
  have h1 := ns_lit1 w w.heap.size ⟨1, 0, 0, 0, 1⟩ ⟨i1, i0, i0, i0, i1⟩ rfl
  have b2 := (Below.refl _ (w.alloc (.cells #[.int .i64 1, .int .i64 0, .int .i64 0, .int .i64 0, .int .i64 1] 35))).alloc (Nat.le_refl _) (.cells #[.int .i64 1, .int .i64 0, .int .i64 0, .int .i64 0, .int .i64 1, .int .i64 2, .int .i64 1, .int .i64 0, .int .i64 0, .int .i64 0] 35)
  have h2 := ns_lit2 (w.alloc (.cells #[.int .i64 1, .int .i64 0, .int .i64 0, .int .i64 0, .int .i64 1] 35)) (w.heap.size + 1) ⟨1, 0, 0, 0, 1⟩ ⟨2, 1, 0, 0, 0⟩ ⟨i1, i0, i0, i0, i1⟩ ⟨i2, i1, i0, i0, i0⟩ (by simp)
  have b3 := (Below.refl _ ((w.alloc (.cells #[.int .i64 1, .int .i64 0, .int .i64 0, .int .i64 0, .int .i64 1] 35)).alloc (.cells #[.int .i64 1, .int .i64 0, .int .i64 0, .int .i64 0, .int .i64 1, .int .i64 2, .int .i64 1, .int .i64 0, .int .i64 0, .int .i64 0] 35))).alloc (Nat.le_refl _) (.cells #[.int .i64 1, .int .i64 0, .int .i64 0, .int .i64 0, .int .i64 1, .int .i64 2, .int .i64 0, .int .i64 0, .int .i64 0, .int .i64 1] 35)
  have h3 := ns_lit2 ((w.alloc (.cells #[.int .i64 1, .int .i64 0, .int .i64 0, .int .i64 0, .int .i64 1] 35)).alloc (.cells #[.int .i64 1, .int .i64 0, .int .i64 0, .int .i64 0, .int .i64 1, .int .i64 2, .int .i64 1, .int .i64 0, .int .i64 0, .int .i64 0] 35)) (w.heap.size + 1 + 1) ⟨1, 0, 0, 0, 1⟩ ⟨2, 0, 0, 0, 1⟩ ⟨i1, i0, i0, i0, i1⟩ ⟨i2, i0, i0, i0, i1⟩ (by simp)
  exact ⟨(((Below.refl _ w).alloc (Nat.le_refl _) _).alloc (by simp) _).alloc (by simp; omega) _, (h1.below b2).below b3, h2.below b3, h3, by simp; omega⟩
theorem hollow_at (A : Option Addr) (c n k : Nat) (q : Int) (l : List Nd) (w : World) (h : Ns w A c l) (hn : l.length = n) (hl : looseB l = true) (hk : k ≤ n) (hq : q = k) :
    Calls Try.prog 15 #[.slice A n c, .int .i64 q] w fun e w' => e = .returned (.bool (hollowB l k)) ∧ Below w.heap.size w w' := by
  subst hq
  exact hollow_any A c n l k w h hn hl hk
theorem empty_at (A : Option Addr) (c n k : Nat) (q : Int) (l : List Nd) (w : World) (h : Ns w A c l) (hn : l.length = n) (hl : looseB l = true) (hk : k ≤ n) (hq : q = k) :
    Calls Try.prog 13 #[.slice A n c, .int .i64 q] w fun e w' => e = .returned (.bool (empB l k)) ∧ Below w.heap.size w w' := by
  subst hq
  exact nempty_any A c n l k w h hn hl hk
set_option maxRecDepth 100000 in
set_option maxHeartbeats 3200000 in
theorem alive5_any (w : World) : Calls Try.prog 6 #[] w fun e w' => e = .returned (.bool true) ∧ Below w.heap.size w w' := by
  have HS := Lib.hid (St5.start w)
  have q0 : True := trivial
  go_enter Try.func6, Try.ntmps6
  go_wp2_with (first
    | (have _t := q0; go_at_call 9; clear _t; go_loud (refine (nright_any _ _ 1 one5 _ HS.out.2.1 rfl (by omega)).mono ?_; rintro e w1 ⟨rfl, b1⟩; have HS := Lib.hid (HS.out.step b1); clear b1; rw [v_one]; have q1 := q0; clear q0))
    | (have _t := q1; go_at_call 17; clear _t; go_loud (refine (nlevel_any _ _ 1 one5 _ HS.out.2.1 rfl).mono ?_; rintro e w2 ⟨rfl, b1⟩; have HS := Lib.hid (HS.out.step b1); clear b1; rw [v_lev]; have q2 := q1; clear q1))
    | (have _t := q2; go_at_call 7; clear _t; go_loud (refine (loose_at _ _ 2 hol5 _ HS.out.2.2.1 rfl).mono ?_; rintro e w3 ⟨rfl, b1⟩; have HS := Lib.hid (HS.out.step b1); clear b1; rw [v_lol]; have q3 := q2; clear q2))
    | (have _t := q3; go_at_call 15; clear _t; go_loud (refine (hollow_at _ _ 2 2 2 hol5 _ HS.out.2.2.1 rfl v_lol (by omega) rfl).mono ?_; rintro e w4 ⟨rfl, b1⟩; have HS := Lib.hid (HS.out.step b1); clear b1; rw [v_hol]; have q4 := q3; clear q3))
    | (have _t := q4; go_at_call 9; clear _t; go_loud (refine (nright_any _ _ 2 hol5 _ HS.out.2.2.1 rfl (by omega)).mono ?_; rintro e w5 ⟨rfl, b1⟩; have HS := Lib.hid (HS.out.step b1); clear b1; rw [v_rol]; have q5 := q4; clear q4))
    | (have _t := q5; go_at_call 9; clear _t; go_loud (refine (nright_any _ _ 2 far5 _ HS.out.2.2.2.1 rfl (by omega)).mono ?_; rintro e w6 ⟨rfl, b1⟩; have HS := Lib.hid (HS.out.step b1); clear b1; rw [v_far]; have q6 := q5; clear q5))
    | (have _t := q6; go_at_call 15; clear _t; go_loud (refine (hollow_at _ _ 2 2 2 far5 _ HS.out.2.2.2.1 rfl v_lof (by omega) rfl).mono ?_; rintro e w7 ⟨rfl, b1⟩; have HS := Lib.hid (HS.out.step b1); clear b1; rw [v_hof]; have q7 := q6; clear q6))
    | (have _t := q7; go_at_call 13; clear _t; go_loud (refine (empty_at _ _ 2 0 0 far5 _ HS.out.2.2.2.1 rfl v_lof (by omega) rfl).mono ?_; rintro e w8 ⟨rfl, b1⟩; have HS := Lib.hid (HS.out.step b1); clear b1; rw [v_em0]; have q8 := q7; clear q7))
    | (have _t := q8; go_at_call 13; clear _t; go_loud (refine (empty_at _ _ 2 2 2 far5 _ HS.out.2.2.2.1 rfl v_lof (by omega) rfl).mono ?_; rintro e w9 ⟨rfl, b1⟩; have HS := Lib.hid (HS.out.step b1); clear b1; rw [v_em2]; have q9 := q8; clear q8))
    | (have _t := q9; go_at_call 13; clear _t; go_loud (refine (empty_at _ _ 1 1 1 nil5 _ (ns_lit1 _ _ ⟨1, 0, 0, 0, 0⟩ (by refine ⟨⟨?_, ?_⟩, ⟨?_, ?_⟩, ⟨?_, ?_⟩, ⟨?_, ?_⟩, ⟨?_, ?_⟩⟩ <;> simp) rfl) rfl v_nil (by omega) rfl).mono ?_; rintro e w10 ⟨rfl, b1⟩; have HS := Lib.hid ((HS.out.alloc _).step b1); clear b1; rw [v_nie]; have q10 := q9; clear q9))
    | (have _t := q10; go_at_call 7; clear _t; go_loud (refine (loose_at _ _ 1 big5 _ (ns_lit1 _ _ ⟨1, 256, 0, 0, 0⟩ (by refine ⟨⟨?_, ?_⟩, ⟨?_, ?_⟩, ⟨?_, ?_⟩, ⟨?_, ?_⟩, ⟨?_, ?_⟩⟩ <;> simp) rfl) rfl).mono ?_; rintro e w11 ⟨rfl, b1⟩; have HS := Lib.hid ((HS.out.alloc _).step b1); clear b1; rw [v_big]; have q11 := q10; clear q10))
    | (have _t := q11; go_at_call 11; clear _t; go_loud (refine (nsame_any _ _ _ _ 1 1 one5 one5 _ HS.out.2.1 HS.out.2.1 rfl rfl).mono ?_; rintro e w12 ⟨rfl, b1⟩; have HS := Lib.hid (HS.out.step b1); clear b1; rw [v_sam]; have q12 := q11; clear q11))
    | (have _t := q12; go_at_call 11; clear _t; go_loud (refine (nsame_any _ _ _ _ 1 2 one5 far5 _ HS.out.2.1 HS.out.2.2.2.1 rfl rfl).mono ?_; rintro e w13 ⟨rfl, b1⟩; have HS := Lib.hid (HS.out.step b1); clear b1; rw [v_dif]; have q13 := q12; clear q12)))
  go_ret
  exact ⟨rfl, HS.out.1⟩
end Go.Proofs.Ytilhnnbmplnnpaa
