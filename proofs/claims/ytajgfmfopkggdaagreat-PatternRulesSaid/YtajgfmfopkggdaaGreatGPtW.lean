/-
  pattern: the fixed fact.
  pattern: PatternTells, the walk.
  From a call's reading to the walks' facts: patterns, limits.
-/
import Derived.Test.YtajgfmfopkggdaaGreatGPtO
import Derived.Test.YtajgfmfopkggdaaGreatGClRow
import Derived.Test.YtajgfmfopkggdaaGreatGLkQ

set_option linter.unusedVariables false
set_option linter.unusedSimpArgs false
set_option maxRecDepth 100000
namespace Go.Proofs.YtajgfmfopkggdaaGreat
open Go.RowKit Num Nds Txt
def two11 : List Nd := [⟨1, 2, 0, 0, 0⟩, ⟨2, 1, 0, 0, 0⟩, ⟨1, 1, 0, 0, 0⟩, ⟨2, 3, 0, 0, 0⟩, ⟨3, 2, 4, 0, 0⟩, ⟨4, 0, 0, 0, 5⟩]
def cells11 : List Cl := [⟨0, 0, 2⟩, ⟨4, 0, 1⟩]
theorem two11_last : lastF cells11 = cells11 := by kernel_rfl
theorem two11_cells : lastF cells11 = cellsL two11 := by kernel_rfl
theorem two11_self : OfL two11 two11.length = two11 := by kernel_rfl
theorem two11_least : leastF (lastF cells11) = 4 := by kernel_rfl
theorem two11_loose : looseB two11 = true := by kernel_rfl
theorem two11_most : mostF two11 % 256 = 2 := by kernel_rfl
theorem two11_quad {out : List Nd} (h : QuadOf (lastF cells11) out) : out = two11 := by
 have k := quadOf_self two11_loose
 rw [two11_self, ← two11_cells] at k
 exact quadOf_one h k fun _ _ => rfl
theorem two11_of : QuadOf cells11 two11 := by
 have k := quadOf_self two11_loose
 rw [two11_self, ← two11_cells, two11_last] at k
 exact k
theorem two11_lk (x y : Int) (h : lk cells11 x y ≠ 0) : y = 0 ∧ (x = 0 ∨ x = 4) := by
 unfold cells11 lk lk lk at h
 dsimp only at h
 split at h
 ·
  rename_i h1
  omega
 ·
  split at h
  ·
   rename_i h1
   omega
  ·
   exact absurd rfl h
theorem box11 {ok : Bool} {X Y V H : Int} (b : BxV two11 6 ok X Y V H) : V = 5 ∧ H = 1 := by
 have hd := two11_of.den
 have hg := two11_of.good
 have c1 : cellM (den two11 two11.length) 0 0 = 2 := by rw [hd]; rfl
 have c2 : cellM (den two11 two11.length) 4 0 = 1 := by rw [hd]; rfl
 have only : ∀ x y, cellM (den two11 two11.length) x y ≠ 0 → y = 0 ∧ (x = 0 ∨ x = 4) := fun x y h => two11_lk x y (by rw [← hd]; exact h)
 rcases (show BxV two11 two11.length ok X Y V H from b).cells hg with ⟨e, -⟩ | ⟨rfl, hc, ⟨x1, y1, a1, rfl⟩, ⟨x2, y2, a2, e2⟩, ⟨x3, y3, a3, rfl⟩, ⟨x4, y4, a4, e4⟩⟩
 ·
  cases e
 ·
  have b1 := hc 0 0 (by rw [c1]; omega)
  have b2 := hc 4 0 (by rw [c2]; omega)
  have k1 := only _ _ a1
  have k2 := only _ _ a2
  have k3 := only _ _ a3
  have k4 := only _ _ a4
  omega
def rule11 : ByteArray := ⟨#[66, 51, 47, 83, 50, 51]⟩
theorem near11 {n : Int} (h : -8 ≤ n ∧ n < 8) : -p2 1330 ≤ n ∧ n ≤ p2 1330 := near9 h
theorem may11 {A : Option Addr} {W : World} {a : Bw} (h : a.R W 4) (hl : a.xs.length ≤ 50) : mayB [⟨false, none, 0, [], false, none, 0, [], 2⟩, ⟨a.s, a.a, a.c, a.xs, false, none, 0, [], 1⟩] 2 = true := by
 have e : [(⟨false, none, 0, [], false, none, 0, [], 2⟩ : Cv), ⟨a.s, a.a, a.c, a.xs, false, none, 0, [], 1⟩].map Cv.cl = cells11 := by
  show [(⟨ival false [], ival false [], _⟩ : Cl), ⟨ival a.s a.xs, ival false [], _⟩] = _
  rw [h.v]
  rfl
 refine may_iff.2 ⟨?_, ?_, ?_⟩
 ·
  unfold greatB
  rw [Bool.or_eq_false_iff]
  refine ⟨decide_eq_false (by show ¬ ((2 : Int) < 2); omega), List.any_eq_false.2 fun v hv => ?_⟩
  unfold vast
  rw [Bool.or_eq_true, decide_eq_true_iff, decide_eq_true_iff]
  simp only [List.mem_cons, List.not_mem_nil, or_false] at hv
  rcases hv with rfl | rfl
  ·
   exact fun h => by rcases h with h | h <;> exact absurd h (by show ¬ _; simp)
  ·
   exact fun h => by
    rcases h with h | h
    ·
     exact absurd h (by show ¬ (50 < a.xs.length); omega)
    ·
     exact absurd h (by show ¬ _; simp)
 ·
  refine List.all_eq_true.2 fun v hv => ?_
  simp only [List.mem_cons, List.not_mem_nil, or_false] at hv
  rcases hv with rfl | rfl
  ·
   rfl
  ·
   unfold okC
   rw [Bool.and_eq_true]
   exact ⟨canon_right9 h.cn, rfl⟩
 ·
  rw [e, two11_least]
  omega
set_option maxHeartbeats 6400000 in
theorem alive11_any (w : World) : Calls Tryz.prog 29 #[] w fun e w' => e = .returned (.bool true) ∧ Below w.heap.size w w' := by
 have q0 : True := trivial
 go_enter Tryz.func29, Tryz.ntmps29
 rw [show (⟨#[66, 51, 47, 83, 50, 51]⟩ : ByteArray) = rule11 from rfl]
 go_wp2_with (first
  | (have _t := q0; go_at_call 27; clear _t; go_loud (refine (rbof_any 4 _ (by omega) (by omega)).mono ?_; rintro e w1 h_; obtain ⟨a, rfl, r_, b_⟩ := retI_bw h_; have la := bw_len r_ (near11 (by omega)).1 (near11 (by omega)).2; have hca := r_.us.cap; have Ra := Lib.hid r_; have B1 := Lib.hid b_; clear h_ r_ b_; have q1 := q0; clear q0))
  | (have _t := q1; go_at_call 40; clear _t; go_loud (have hal := (Below.refl w1.heap.size w1).alloc (Nat.le_refl _) (.cells #[.bool false, .slice none 0 0, .bool false, .slice none 0 0, .int .u8 2, .bool a.s, .slice a.a a.xs.length a.c, .bool false, .slice none 0 0, .int .u8 1] 100); refine (rpof_any (some ⟨w1.heap.size, 0, none⟩) 2 2 2 rule11 [⟨false, none, 0, [], false, none, 0, [], 2⟩, ⟨a.s, a.a, a.c, a.xs, false, none, 0, [], 1⟩] _ (by decide) (cs_two9 _ _ (heap_alloc_new w1 _) ⟨Us.nil _, Us.nil _, by show 2 ≤ 255; omega⟩ ⟨Ra.out.us.below hal, Us.nil _, by show 1 ≤ 255; omega⟩) rfl (by omega)).mono ?_; rintro e w2 ⟨A5, c5, qn, q, ok, rfl, l5, n5, a5, b5, hok, -, hqo⟩; have hm := may11 (A := none) Ra.out la; rw [hm] at hok; subst hok; have e5 : q = two11 := two11_quad (by have := hqo rfl; rwa [show [(⟨false, none, 0, [], false, none, 0, [], 2⟩ : Cv), ⟨a.s, a.a, a.c, a.xs, false, none, 0, [], 1⟩].map Cv.cl = cells11 by (show [(⟨ival false [], ival false [], _⟩ : Cl), ⟨ival a.s a.xs, ival false [], _⟩] = _; rw [Ra.out.v]; rfl)] at this); subst e5; have e6 : qn = 6 := l5.symm; subst e6; have hc5 := n5.cap; have N5 := Lib.hid n5; have B2 := Lib.hid (B1.out.trans ((hal.trans (b5.mono hal.size)).mono B1.out.size)); clear hm l5 n5 a5 b5 hqo hal; have q2 := q1; clear q1))
  | (have _t := q2; go_at_call 41; clear _t; go_loud (have ha1 := (Below.refl w2.heap.size w2).alloc (Nat.le_refl _) (.cells #[.string rule11, .slice A5 6 c5] 52); have ha2 := ha1.alloc ha1.size (.cells #[.int .i64 5, .int .i64 9] 54); have PP := Lib.hid (show Pa w ((w2.alloc (.cells #[.string rule11, .slice A5 6 c5] 52)).alloc (.cells #[.int .i64 5, .int .i64 9] 54)) A5 c5 6 two11 rule11 w2.heap.size (w2.heap.size + 1) 5 9 from ⟨B2.out.trans (ha2.mono B2.out.size), N5.out.below ha2, (((Below.refl (w2.heap.size + 1) (w2.alloc (.cells #[.string rule11, .slice A5 6 c5] 52))).alloc (by simp) (.cells #[.int .i64 5, .int .i64 9] 54)).block w2.heap.size (by simp)).trans (heap_alloc_new w2 _), by have := heap_alloc_new (w2.alloc (.cells #[.string rule11, .slice A5 6 c5] 52)) (.cells #[.int .i64 5, .int .i64 9] 54); simpa using this⟩); clear ha1 ha2; refine (pexpress_any A5 c5 6 rule11 two11 4 5 9 _ PP.out.ns rfl (by omega) two11_of.good (by omega) (by omega)).mono ?_; rintro e w3 ⟨b, rfl, hb, hex, b_⟩; obtain ⟨X, Y, V, H, ok', bv⟩ := hex rfl; have hbx := box11 bv; have W5 := Lib.hid (show WinP two11 6 5 from ⟨X, Y, V, H, ok', bv, by omega, by omega⟩); have W4 := Lib.hid (show ¬ WinP two11 6 4 from fun h => by (obtain ⟨X', Y', V', H', ok2, bv2, h1, h2⟩ := h; have := box11 bv2; omega)); obtain rfl : b = true := hb.2 (.inr ⟨W5.out, .inl rfl⟩); have PP := Lib.hid (PP.out.next b_); clear b_ hb hex bv hbx; obtain ⟨c0, c1, c2, c3⟩ := PP.out.cells; have q3 := q2; clear q2))
  | (have _t := q3; go_at_call 41; clear _t; go_loud (refine (pexpress_any A5 c5 6 rule11 two11 5 5 9 _ PP.out.ns rfl (by omega) two11_of.good (by omega) (by omega)).mono ?_; rintro e w4 ⟨b, rfl, hb, -, b_⟩; obtain rfl : b = true := hb.2 (.inl rfl); clear hb; have PP := Lib.hid (PP.out.next b_); clear c0 c1 c2 c3 b_; obtain ⟨c0, c1, c2, c3⟩ := PP.out.cells; have q4 := q3; clear q3))
  | (have _t := q4; go_at_call 41; clear _t; go_loud (refine (pexpress_any A5 c5 6 rule11 two11 1 5 9 _ PP.out.ns rfl (by omega) two11_of.good (by omega) (by omega)).mono ?_; rintro e w5 ⟨b, rfl, hb, -, b_⟩; obtain rfl : b = false := Bool.eq_false_iff.2 (fun h => by (rcases hb.1 h with h | ⟨-, h | h⟩; exact absurd h (by omega); exact absurd h (by omega); rw [two11_most] at h; exact absurd h (by omega))); clear hb; have PP := Lib.hid (PP.out.next b_); clear c0 c1 c2 c3 b_; obtain ⟨c0, c1, c2, c3⟩ := PP.out.cells; have q5 := q4; clear q4))
  | (have _t := q5; go_at_call 41; clear _t; go_loud (refine (pexpress_any A5 c5 6 rule11 two11 4 4 0 _ PP.out.ns rfl (by omega) two11_of.good (by omega) (by omega)).mono ?_; rintro e w6 ⟨b, rfl, hb, -, b_⟩; obtain rfl : b = false := Bool.eq_false_iff.2 (fun h => by (rcases hb.1 h with h | ⟨h, -⟩; exact absurd h (by omega); exact W4.out h)); clear hb; have PP := Lib.hid (PP.out.next b_); clear c0 c1 c2 c3 b_; obtain ⟨c0, c1, c2, c3⟩ := PP.out.cells; have q6 := q5; clear q5))
  | (have _t := q6; go_at_call 38; clear _t; go_loud (refine (pcheck_any A5 c5 6 rule11 two11 3 5 9 _ (by decide) PP.out.ns rfl (by omega) (by omega)).mono ?_; rintro e w7 ⟨er, rfl, hk, b_⟩; obtain rfl : er = 5 := (by (rcases hk.2 (by kernel_rfl) with ⟨-, h⟩ | ⟨h, -⟩; rcases h with h | ⟨-, h | h⟩; exact absurd h (by omega); exact absurd h (by omega); rw [two11_most] at h; exact absurd h (by omega); exact h)); clear hk; have PP := Lib.hid (PP.out.next b_); clear c0 c1 c2 c3 b_; obtain ⟨c0, c1, c2, c3⟩ := PP.out.cells; have q7 := q6; clear q6))
  | (have _t := q7; go_at_call 38; clear _t; go_loud (refine (pcheck_any A5 c5 6 rule11 two11 6 5 9 _ (by decide) PP.out.ns rfl (by omega) (by omega)).mono ?_; rintro e w8 ⟨er, rfl, hk, b_⟩; obtain rfl : er = 1 := hk.1 (by kernel_rfl); clear hk; have PP := Lib.hid (PP.out.next b_); clear c0 c1 c2 c3 b_; obtain ⟨c0, c1, c2, c3⟩ := PP.out.cells; have q8 := q7; clear q7))
  | (have _t := q8; go_at_call 38; clear _t; go_loud (refine (pcheck_any A5 c5 6 rule11 two11 4 5 9 _ (by decide) PP.out.ns rfl (by omega) (by omega)).mono ?_; rintro e w9 ⟨er, rfl, hk, b_⟩; obtain rfl : er = 0 := (by (rcases hk.2 (by kernel_rfl) with ⟨h, -⟩ | ⟨-, h⟩; exact h; exact absurd (.inr ⟨W5.out, .inl rfl⟩) h)); clear hk; have PP := Lib.hid (PP.out.next b_); clear c0 c1 c2 c3 b_; obtain ⟨c0, c1, c2, c3⟩ := PP.out.cells; have q9 := q8; clear q8))
  | (have _t := q9; go_at_call 30; clear _t; go_loud (refine (pright_any A5 c5 6 rule11 two11 _ (by decide) PP.out.ns rfl (by omega)).mono ?_; rintro e w10 ⟨rfl, b_⟩; rw [show mayP rule11 two11 = true by kernel_rfl]; have PP := Lib.hid (PP.out.next b_); clear c0 c1 c2 c3 b_; obtain ⟨c0, c1, c2, c3⟩ := PP.out.cells; have q10 := q9; clear q9))
  | (have _t := q10; go_at_call 30; clear _t; go_loud (refine (pright_any none 0 0 ⟨#[]⟩ [] _ (by decide) (ns_nil _) rfl (by omega)).mono ?_; rintro e w11 ⟨rfl, b_⟩; rw [show mayP ⟨#[]⟩ [] = false by kernel_rfl]; have PP := Lib.hid (PP.out.next b_); clear c0 c1 c2 c3 b_; obtain ⟨c0, c1, c2, c3⟩ := PP.out.cells; have q11 := q10; clear q10))
  | (have _t := q11; go_at_call 32; clear _t; go_loud (refine (pfine_any 5 9 _).mono ?_; rintro e w12 ⟨rfl, b_⟩; rw [show fineB 5 9 = true from rfl]; have PP := Lib.hid (PP.out.next b_); clear c0 c1 c2 c3 b_; obtain ⟨c0, c1, c2, c3⟩ := PP.out.cells; have q12 := q11; clear q11))
  | (have _t := q12; go_at_call 32; clear _t; go_loud (refine (pfine_any 1001 0 _).mono ?_; rintro e w13 ⟨rfl, b_⟩; rw [show fineB 1001 0 = false from rfl]; have PP := Lib.hid (PP.out.next b_); clear c0 c1 c2 c3 b_; obtain ⟨c0, c1, c2, c3⟩ := PP.out.cells; have q13 := q12; clear q12))
  | (have _t := q13; go_at_call 36; clear _t; go_loud (refine (pfmt_any 5 _).mono ?_; rintro e w14 ⟨rfl, rfl⟩; rw [show fmtB 5 = true from rfl]; have q14 := q13; clear q13))
  | (have _t := q14; go_at_call 36; clear _t; go_loud (refine (pfmt_any 0 _).mono ?_; rintro e w15 ⟨rfl, rfl⟩; rw [show fmtB 0 = false from rfl]; have q15 := q14; clear q14))
  | (have _t := q15; go_at_call 34; clear _t; go_loud (refine (psame_any A5 A5 c5 c5 6 6 rule11 rule11 two11 two11 _ PP.out.ns PP.out.ns rfl rfl).mono ?_; rintro e w16 ⟨rfl, b_⟩; rw [show (decide (rule11 = rule11) && decide (two11 = two11)) = true by (rw [decide_eq_true rfl, decide_eq_true rfl]; rfl)]; have PP := Lib.hid (PP.out.next b_); clear c0 c1 c2 c3 b_; obtain ⟨c0, c1, c2, c3⟩ := PP.out.cells; have q16 := q15; clear q15))
  | (have _t := q16; go_at_call 34; clear _t; go_loud (refine (psame_any A5 none c5 0 6 0 rule11 ⟨#[]⟩ two11 [] _ PP.out.ns (ns_nil _) rfl rfl).mono ?_; rintro e w17 ⟨rfl, b_⟩; rw [show (decide (rule11 = ⟨#[]⟩) && decide (two11 = [])) = false by kernel_rfl]; have PP := Lib.hid (PP.out.next b_); clear c0 c1 c2 c3 b_; obtain ⟨c0, c1, c2, c3⟩ := PP.out.cells; have q17 := q16; clear q16)))
 go_ret
 exact ⟨rfl, PP.out.b⟩
end Go.Proofs.YtajgfmfopkggdaaGreat

namespace Go.Proofs.YtajgfmfopkggdaaGreat
open Go.RowKit Num Nds Txt
structure Pt (w W : World) (A B : Option Addr) (c d n m : Nat) (p o : List Nd) (s t : ByteArray) (g3 g4 g5 : Nat) (box nodes : Int) : Prop where
 b : Below w.heap.size w W
 np : Ns W A c p
 no : Ns W B d o
 k3 : W.heap[g3]? = some (.cells #[.string s, .slice A n c] 52)
 k4 : W.heap[g4]? = some (.cells #[.string t, .slice B m d] 52)
 k5 : W.heap[g5]? = some (.cells #[.int .i64 box, .int .i64 nodes] 54)
section
variable {w W W' : World} {A B : Option Addr} {c d n m : Nat} {p o : List Nd} {s t : ByteArray} {g3 g4 g5 : Nat} {box nodes : Int}
theorem Pt.next (h : Pt w W A B c d n m p o s t g3 g4 g5 box nodes) (k : Below W.heap.size W W') : Pt w W' A B c d n m p o s t g3 g4 g5 box nodes :=
 ⟨h.b.trans (k.mono h.b.size), h.np.below k, h.no.below k, (k.block _ (heapLt h.k3)).trans h.k3, (k.block _ (heapLt h.k4)).trans h.k4, (k.block _ (heapLt h.k5)).trans h.k5⟩
theorem Pt.cells (h : Pt w W A B c d n m p o s t g3 g4 g5 box nodes) :
  W.cell? ⟨g3, 0, none⟩ = some (.string s) ∧ W.cell? ⟨g3, 1, none⟩ = some (.slice A n c) ∧ W.cell? ⟨g4, 0, none⟩ = some (.string t) ∧ W.cell? ⟨g4, 1, none⟩ = some (.slice B m d) ∧ W.cell? ⟨g5, 0, none⟩ = some (.int .i64 box) ∧ W.cell? ⟨g5, 1, none⟩ = some (.int .i64 nodes) :=
 ⟨(pat_cells h.k3).1, (pat_cells h.k3).2, (pat_cells h.k4).1, (pat_cells h.k4).2, (lim_cells h.k5).1, (lim_cells h.k5).2⟩
end
theorem Pt.start (w : World) {A B : Option Addr} {c d n m : Nat} {p o : List Nd} (s t : ByteArray) (box nodes : Int) (h : Ns w A c p) (k : Ns w B d o) :
  Pt w (((w.alloc (.cells #[.string s, .slice A n c] 52)).alloc (.cells #[.string t, .slice B m d] 52)).alloc (.cells #[.int .i64 box, .int .i64 nodes] 54)) A B c d n m p o s t w.heap.size (w.heap.size + 1) (w.heap.size + 1 + 1) box nodes := by
 have b1 := (Below.refl w.heap.size w).alloc (Nat.le_refl _) (.cells #[.string s, .slice A n c] 52)
 have b2 := b1.alloc b1.size (.cells #[.string t, .slice B m d] 52)
 have b3 := b2.alloc b2.size (.cells #[.int .i64 box, .int .i64 nodes] 54)
 have x1 := heap_alloc_new w (.cells #[.string s, .slice A n c] 52)
 have x2 := heap_alloc_new (w.alloc (.cells #[.string s, .slice A n c] 52)) (.cells #[.string t, .slice B m d] 52)
 have x3 := heap_alloc_new ((w.alloc (.cells #[.string s, .slice A n c] 52)).alloc (.cells #[.string t, .slice B m d] 52)) (.cells #[.int .i64 box, .int .i64 nodes] 54)
 rw [World.size_alloc] at x2
 rw [World.size_alloc, World.size_alloc] at x3
 refine ⟨b3, h.below b3, k.below b3, ?_, ?_, x3⟩
 ·
  exact ((((Below.refl _ _).alloc (Nat.le_refl _) _).block _ (by rw [World.size_alloc, World.size_alloc]; omega)).trans (((Below.refl _ _).alloc (Nat.le_refl _) _).block _ (by rw [World.size_alloc]; omega))).trans x1
 ·
  exact (((Below.refl _ _).alloc (Nat.le_refl _) _).block _ (by rw [World.size_alloc, World.size_alloc]; omega)).trans x2
set_option maxHeartbeats 6400000 in
theorem ptells_g1
  (A B : Option Addr) (c d n m : Nat) (s t : ByteArray) (p o : List Nd) (box nodes : Int) (w : World) (hs : s.size ≤ maxLen) (ht : t.size ≤ maxLen) (h : Ns w A c p) (k : Ns w B d o) (hn : p.length = n) (hm : o.length = m) (hb : -9223372036854775808 ≤ box ∧ box ≤ 9223372036854775807) (h6 : 60 < n) :
  Calls Tryz.prog 7 #[.agg #[.string s, .slice A n c], .agg #[.string t, .slice B m d], .agg #[.int .i64 box, .int .i64 nodes]] w fun e w' => e = .returned (.bool true) ∧ Below w.heap.size w w' := by
 have hcp := h.cap
 have hco := k.cap
 rw [hn] at hcp
 rw [hm] at hco
 have P0 := Lib.hid (Pt.start (n := n) (m := m) w s t box nodes h k)
 have HS := Lib.hid hs
 have HT := Lib.hid ht
 have HL := Lib.hid hn
 have HM := Lib.hid hm
 have q0 : True := trivial
 have t1 : decide ((n : Int) > 60) = true := decide_eq_true (by omega)
 clear h k hn hm hs ht h6
 go_enter Tryz.func7, Tryz.ntmps7
 go_wp2_with (have _t := q0; go_at_call 29; clear _t; go_loud (refine (alive11_any _).mono ?_; rintro e w1 ⟨rfl, b_⟩; have P1 := Lib.hid (P0.out.next b_); obtain ⟨c0, c1, c2, c3, c4, c5⟩ := P1.out.cells; clear b_; have q1 := q0; clear q0))
 go_ret
 exact ⟨rfl, P1.out.b⟩
set_option maxHeartbeats 6400000 in
theorem ptells_g2
  (A B : Option Addr) (c d n m : Nat) (s t : ByteArray) (p o : List Nd) (box nodes : Int) (w : World) (hs : s.size ≤ maxLen) (ht : t.size ≤ maxLen) (h : Ns w A c p) (k : Ns w B d o) (hn : p.length = n) (hm : o.length = m) (hb : -9223372036854775808 ≤ box ∧ box ≤ 9223372036854775807) (h6 : n ≤ 60) (h7 : 60 < m) :
  Calls Tryz.prog 7 #[.agg #[.string s, .slice A n c], .agg #[.string t, .slice B m d], .agg #[.int .i64 box, .int .i64 nodes]] w fun e w' => e = .returned (.bool true) ∧ Below w.heap.size w w' := by
 have hcp := h.cap
 have hco := k.cap
 rw [hn] at hcp
 rw [hm] at hco
 have P0 := Lib.hid (Pt.start (n := n) (m := m) w s t box nodes h k)
 have HS := Lib.hid hs
 have HT := Lib.hid ht
 have HL := Lib.hid hn
 have HM := Lib.hid hm
 have q0 : True := trivial
 have t1 : decide ((n : Int) > 60) = false := decide_eq_false (by omega)
 have t2 : decide ((m : Int) > 60) = true := decide_eq_true (by omega)
 clear h k hn hm hs ht h6 h7
 go_enter Tryz.func7, Tryz.ntmps7
 go_wp2_with (have _t := q0; go_at_call 29; clear _t; go_loud (refine (alive11_any _).mono ?_; rintro e w1 ⟨rfl, b_⟩; have P1 := Lib.hid (P0.out.next b_); obtain ⟨c0, c1, c2, c3, c4, c5⟩ := P1.out.cells; clear b_; have q1 := q0; clear q0))
 go_ret
 exact ⟨rfl, P1.out.b⟩
set_option maxHeartbeats 6400000 in
theorem ptells_main
  (A B : Option Addr) (c d n m : Nat) (s t : ByteArray) (p o : List Nd) (box nodes : Int) (w : World) (hs : s.size ≤ maxLen) (ht : t.size ≤ maxLen) (h : Ns w A c p) (k : Ns w B d o) (hn : p.length = n) (hm : o.length = m) (hb : -9223372036854775808 ≤ box ∧ box ≤ 9223372036854775807) (h6 : n ≤ 60) (h7 : m ≤ 60) :
  Calls Tryz.prog 7 #[.agg #[.string s, .slice A n c], .agg #[.string t, .slice B m d], .agg #[.int .i64 box, .int .i64 nodes]] w fun e w' => e = .returned (.bool true) ∧ Below w.heap.size w w' := by
 have hcp := h.cap
 have hco := k.cap
 rw [hn] at hcp
 rw [hm] at hco
 have P0 := Lib.hid (Pt.start (n := n) (m := m) w s t box nodes h k)
 have HS := Lib.hid hs
 have HT := Lib.hid ht
 have HL := Lib.hid hn
 have HM := Lib.hid hm
 have q0 : True := trivial
 have t1 : decide ((n : Int) > 60) = false := decide_eq_false (by omega)
 have t2 : decide ((m : Int) > 60) = false := decide_eq_false (by omega)
 obtain ⟨R1, hR1⟩ : ∃ R, R = mayP s p := ⟨_, rfl⟩
 obtain ⟨R2, hR2⟩ : ∃ R, R = fineB box nodes := ⟨_, rfl⟩
 obtain ⟨R3, hR3⟩ : ∃ R, R = (decide (s = t) && decide (p = o)) := ⟨_, rfl⟩
 have HR1 := Lib.hid hR1
 have HR2 := Lib.hid hR2
 have HR3 := Lib.hid hR3
 have u1 : (R1 != R1) = false := bne_self_eq_false R1
 have u2 : (R2 != R2) = false := bne_self_eq_false R2
 have u3 : (R3 != R3) = false := bne_self_eq_false R3
 clear h k hn hm hs ht hR1 hR2 hR3
 go_enter Tryz.func7, Tryz.ntmps7
 go_wp2_with (have _t := q0; go_at_call 29; clear _t; go_loud (refine (alive11_any _).mono ?_; rintro e w1 ⟨rfl, b_⟩; have P1 := Lib.hid (P0.out.next b_); obtain ⟨c0, c1, c2, c3, c4, c5⟩ := P1.out.cells; clear b_; have q1 := q0; clear q0))
 have p0 := P1.out.next (Below.drew' (Below.refl _ w1))
 clear c0 c1 c2 c3 c4 c5 P1 P0 q1
 go_region_held3 (fun w' => w'.cell? ⟨w.heap.size, 0, none⟩ = some (.string s) ∧ w'.cell? ⟨w.heap.size, 1, none⟩ = some (.slice A n c) ∧ w'.cell? ⟨w.heap.size + 1, 0, none⟩ = some (.string t) ∧ w'.cell? ⟨w.heap.size + 1, 1, none⟩ = some (.slice B m d) ∧ w'.cell? ⟨w.heap.size + 1 + 1, 0, none⟩ = some (.int .i64 box) ∧ w'.cell? ⟨w.heap.size + 1 + 1, 1, none⟩ = some (.int .i64 nodes))
  (exact Pt.cells (by assumption))
  (first
  | (have _t := p0; go_at_call 30; clear _t; go_loud (refine (pright_any A c n s p _ HS.out p0.np HL.out (by omega)).mono ?_; rintro e w2 ⟨rfl, b_⟩; rw [← HR1.out]; have p1 := p0.next b_; clear p0 b_))
  | (have _t := p1; go_at_call 31; clear _t; go_loud (refine (rpright_any A c n s p _ HS.out p1.np HL.out (by omega)).mono ?_; rintro e w3 ⟨rfl, b_⟩; rw [← HR1.out]; have p2 := p1.next b_; clear p1 b_))
  | (have _t := p2; go_at_call 32; clear _t; go_loud (refine (pfine_any box nodes _).mono ?_; rintro e w4 ⟨rfl, b_⟩; rw [← HR2.out]; have p3 := p2.next b_; clear p2 b_))
  | (have _t := p3; go_at_call 33; clear _t; go_loud (refine (rfine_any box nodes _).mono ?_; rintro e w5 ⟨rfl, b_⟩; rw [← HR2.out]; have p4 := p3.next b_; clear p3 b_))
  | (have _t := p4; go_at_call 34; clear _t; go_loud (refine (psame_any A B c d n m s t p o _ p4.np p4.no HL.out HM.out).mono ?_; rintro e w6 ⟨rfl, b_⟩; rw [← HR3.out]; have p5 := p4.next b_; clear p4 b_))
  | (have _t := p5; go_at_call 35; clear _t; go_loud (refine (rpsame_any A B c d n m s t p o _ p5.np p5.no HL.out HM.out).mono ?_; rintro e w7 ⟨rfl, b_⟩; rw [← HR3.out]; have p6 := p5.next b_; clear p5 b_)))
 have P6 := Lib.hid p6
 clear p6
 obtain ⟨c0, c1, c2, c3, c4, c5⟩ := P6.out.cells
 go_wp2_with fail
 go_loopw [7] (fun z wr => ∃ f : Int, z = .int .i64 f ∧ -1 ≤ f ∧ f ≤ 8 ∧ Pt w wr A B c d n m p o s t w.heap.size (w.heap.size + 1) (w.heap.size + 1 + 1) box nodes) (fun z _ => (8 - intOf z).toNat)
 case atStart => exact ⟨-1, rfl, by omega, by omega, P6.out⟩
 case round =>
  obtain ⟨f, rfl, f0, f8, hp⟩ := hrel
  clear c0 c1 c2 c3 c4 c5 P6
  by_cases hlt : f < 8
  ·
   have t8 : decide (f < 8) = true := decide_eq_true hlt
   obtain ⟨F, hF⟩ : ∃ F, F = fmtB f := ⟨_, rfl⟩
   have HF := Lib.hid hF
   have u4 : (F != F) = false := bne_self_eq_false F
   obtain ⟨E, hE⟩ := ck_det f s p n box nodes
   have HE := Lib.hid hE
   have u5 : (E != E) = false := bne_self_eq_false E
   have fw : IntKind.i64.wrap (f + 1) = f + 1 := IntWalk.i64_in _ (by omega)
   have F0 := Lib.hid f0
   have F8 := Lib.hid hlt
   clear hF hE f0 f8 hlt
   have p0 := hp.next (Below.drew' (Below.refl _ wr))
   clear hp
   go_wp2_with fail
   go_region_held3 (fun w' => w'.cell? ⟨w.heap.size, 0, none⟩ = some (.string s) ∧ w'.cell? ⟨w.heap.size, 1, none⟩ = some (.slice A n c) ∧ w'.cell? ⟨w.heap.size + 1, 0, none⟩ = some (.string t) ∧ w'.cell? ⟨w.heap.size + 1, 1, none⟩ = some (.slice B m d) ∧ w'.cell? ⟨w.heap.size + 1 + 1, 0, none⟩ = some (.int .i64 box) ∧ w'.cell? ⟨w.heap.size + 1 + 1, 1, none⟩ = some (.int .i64 nodes))
    (exact Pt.cells (by assumption))
    (first
    | (have _t := p0; go_at_call 36; clear _t; go_loud (refine (pfmt_any f _).mono ?_; rintro e w2 ⟨rfl, rfl⟩; rw [← HF.out]; have p1 := p0; clear p0))
    | (have _t := p1; go_at_call 37; clear _t; go_loud (refine (rfmt_any f _).mono ?_; rintro e w3 ⟨rfl, rfl⟩; rw [← HF.out]; have p2 := p1; clear p1))
    | (have _t := p2; go_at_call 38; clear _t; go_loud (refine (pcheck_any A c n s p f box nodes _ HS.out p2.np HL.out (by omega) hb).mono ?_; rintro e w4 ⟨er, rfl, hk, b_⟩; rw [HE.out er hk]; clear hk; have p3 := p2.next b_; clear p2 b_))
    | (have _t := p3; go_at_call 39; clear _t; go_loud (refine (rpcheck_any A c n s p f box nodes _ HS.out p3.np HL.out (by omega) hb).mono ?_; rintro e w5 ⟨er, rfl, hk, b_⟩; rw [HE.out er hk]; clear hk; have p4 := p3.next b_; clear p3 b_)))
   have P4 := Lib.hid p4
   clear p4
   go_wp2_with fail
   go_roundw
   case rel => exact ⟨f + 1, by have := F0.out; have := F8.out; go_num, by have := F0.out; omega, by have := F8.out; omega, P4.out⟩
   case measure => have := F8.out; simp [intOf]; omega
  ·
   have t8 : decide (f < 8) = false := decide_eq_false hlt
   have HP := Lib.hid hp
   clear hp hlt f0 f8
   go_wp2_with fail
   go_ret
   exact ⟨rfl, HP.out.b⟩
theorem ptells_law (A B : Option Addr) (c d : Nat) (s t : ByteArray) (p o : List Nd) (box nodes : Int) (w : World) (hs : s.size ≤ maxLen) (ht : t.size ≤ maxLen) (h : Ns w A c p) (k : Ns w B d o) (hb : -9223372036854775808 ≤ box ∧ box ≤ 9223372036854775807) :
  Calls Tryz.prog 7 #[.agg #[.string s, .slice A p.length c], .agg #[.string t, .slice B o.length d], .agg #[.int .i64 box, .int .i64 nodes]] w fun e w' => e = .returned (.bool true) ∧ Below w.heap.size w w' := by
 by_cases h6 : p.length ≤ 60
 ·
  by_cases h7 : o.length ≤ 60
  ·
   exact ptells_main A B c d _ _ s t p o box nodes w hs ht h k rfl rfl hb h6 h7
  ·
   exact ptells_g2 A B c d _ _ s t p o box nodes w hs ht h k rfl rfl hb h6 (by omega)
 ·
  exact ptells_g1 A B c d _ _ s t p o box nodes w hs ht h k rfl rfl hb (by omega)
end Go.Proofs.YtajgfmfopkggdaaGreat

namespace Go.Proofs.YtajgfmfopkggdaaGreat
open Go.ChangeShapes Go.WideShapes Go.ChangeAt Go.RowKit Go.Deep Num Nds
theorem ptw_cells2 : Tryz.prog.cellsOf 52 = 2 := by kernel_rfl
theorem ptw_cellsL : Tryz.prog.cellsOf 54 = 2 := by kernel_rfl
theorem ptw_cellsQ : Tryz.prog.cellsOf 26 = 1 := by kernel_rfl
theorem ptw_cellsS : Tryz.prog.cellsOf 9 = 1 := by kernel_rfl
theorem ptw_cellsN : Tryz.prog.cellsOf 24 = 1 := by kernel_rfl
theorem ns_field {H : Type} {enc : TypeId × Value → H} {W : World} {base fuel : Nat} {v : Value} {y : DataW H × List MemPlace} (hf : DataW.trod enc Tryz.prog W base (fun _ => true) true fuel 24 [v] = some y) : ∃ A c l, v = .slice A l.length c ∧ Ns W A c l ∧ (A = none → c = 0) := by
 obtain ⟨a0, len0, cap0, hv⟩ := Joins.slice_form Tryz.underlying24 hf
 simp at hv
 subst hv
 rcases open_slice Tryz.underlying24 hf with ⟨hcs, hx⟩ | ⟨a, len, cap, m, n, D, Pl, hcs, hb, hl, hm, hmm, hx, hi⟩
 ·
  simp at hcs
  obtain ⟨rfl, rfl, rfl⟩ := hcs
  exact ⟨none, 0, [], rfl, ⟨by simp, by simp, by simp [maxLen], fun h => by simp at h⟩, fun _ => rfl⟩
 ·
  simp at hcs
  obtain ⟨rfl, rfl, rfl⟩ := hcs
  simp only [if_true] at hmm
  subst hmm
  rw [nrow_cells5] at hi
  obtain ⟨l, hll, hp⟩ := list_of (P := fun i y => y.wf ∧ W.cells? base (a.add (i * 5)) 5 = some [.int .i64 y.lv, .int .i64 y.a, .int .i64 y.b, .int .i64 y.c, .int .i64 y.d]) len0 (fun i hlt => by
   obtain ⟨cs', hc, ht⟩ := hi i (by omega)
   obtain ⟨y, hw, rfl⟩ := nd_trod ht
   exact ⟨y, hw, hc⟩)
  obtain ⟨b, off, spot⟩ := a
  refine ⟨some ⟨b, off, spot⟩, _, l, by rw [hll], ⟨fun x hx => ?_, by omega, hm, fun hn => ?_⟩, fun e => by cases e⟩
  ·
   obtain ⟨i, hi2⟩ := List.mem_iff_getElem?.1 hx
   have hil := (List.getElem?_eq_some_iff.1 hi2).1
   have := (hp i (by omega)).1
   unfold Nds.at_ at this
   rw [hi2] at this
   exact this
  ·
   have hcell : ∀ i, i < l.length → ∀ (j : Nat) (u : Value), [Value.int .i64 (Nds.at_ l i).lv, .int .i64 (Nds.at_ l i).a, .int .i64 (Nds.at_ l i).b, .int .i64 (Nds.at_ l i).c, .int .i64 (Nds.at_ l i).d][j]? = some u → W.cell? (((⟨b, off, spot⟩ : Addr).add (i * 5)).add j) = some u := by
    intro i hil j u hu
    obtain ⟨_, hcl, hat⟩ := World.cells?_some (hp i (by omega)).2
    have hj := (List.getElem?_eq_some_iff.1 hu).1
    rw [hat j (by simpa using hj)]
    exact hu
   have hspot : spot = none := by simpa [Addr.add] using World.cell?_spot (hcell 0 hn 0 _ rfl)
   subst hspot
   have hc2 : ∀ i, i < l.length → ∀ (j : Nat) (u : Value), [Value.int .i64 (Nds.at_ l i).lv, .int .i64 (Nds.at_ l i).a, .int .i64 (Nds.at_ l i).b, .int .i64 (Nds.at_ l i).c, .int .i64 (Nds.at_ l i).d][j]? = some u → W.cell? ⟨b, off + i * 5 + j, none⟩ = some u := by
    intro i hil j u hu
    have := hcell i hil j u hu
    have hadd : (⟨b, off, none⟩ : Addr).add (i * 5 + j) = ⟨b, off + (i * 5 + j), none⟩ := by simp [Addr.add]
    rw [Go.Deep.add_add, hadd] at this
    rw [Nat.add_assoc]
    exact this
   refine ⟨b, off, rfl, ?_, fun i hil => ⟨hc2 i hil 0 _ rfl, hc2 i hil 1 _ rfl, hc2 i hil 2 _ rfl, hc2 i hil 3 _ rfl, hc2 i hil 4 _ rfl⟩⟩
   exact World.block_lt_of_cell? W _ (hc2 0 hn 0 _ rfl)
theorem pat_open {H : Type} {enc : TypeId × Value → H} {W : World} {base b0 : Nat} {r : Reach} {v : Value} {d : DataW H} {p : List MemPlace} (hok : Value.okWide Tryz.prog W r b0 52 v)
  (h : DataW.Trod enc Tryz.prog W base (fun _ => true) true 52 v d p) : ∃ s A c l, v = .agg #[.string s, .slice A (List.length l) c] ∧ Ns W A c l ∧ (A = none → c = 0) ∧ s.size ≤ maxLen := by
 obtain ⟨cs, rfl, hsz⟩ := okWide_struct Tryz.underlying52 hok
 obtain ⟨fuel, hf⟩ := h
 obtain ⟨xs, n, _, hx, hlen, hxl, hg⟩ := DataW.trod_struct Tryz.underlying52 hf
 obtain ⟨cs⟩ := cs
 rw [ptw_cells2] at hlen
 simp [Value.cells] at hlen
 have h0 : DataW.trod enc Tryz.prog W base (fun _ => true) true n 9 ((cs.drop 0).take (Tryz.prog.cellsOf 9)) = xs[0]? := hg 0 _ rfl
 have h1 : DataW.trod enc Tryz.prog W base (fun _ => true) true n 26 ((cs.drop 1).take (Tryz.prog.cellsOf 26)) = xs[1]? := hg 1 _ rfl
 rw [ptw_cellsS] at h0
 rw [ptw_cellsQ] at h1
 match cs, hlen with
 | [v0, v1], _ =>
  match xs, hxl with
  | [y0, y1], _ =>
   have h0' : DataW.trod enc Tryz.prog W base (fun _ => true) true n 9 [v0] = some y0 := h0
   have h1' : DataW.trod enc Tryz.prog W base (fun _ => true) true n 26 [v1] = some y1 := h1
   obtain ⟨s, e0, -, hs⟩ := DataW.trod_string Tryz.underlying9 h0'
   simp at e0
   subst e0
   obtain ⟨zs, m, _, _, hlen2, hzl, hk⟩ := DataW.trod_struct Tryz.underlying26 h1'
   have k0 : DataW.trod enc Tryz.prog W base (fun _ => true) true m 24 (([v1].drop 0).take (Tryz.prog.cellsOf 24)) = zs[0]? := hk 0 _ rfl
   rw [ptw_cellsN] at k0
   match zs, hzl with
   | [z0], _ =>
    have k0' : DataW.trod enc Tryz.prog W base (fun _ => true) true m 24 [v1] = some z0 := k0
    obtain ⟨A, c, l, rfl, hN, hA⟩ := ns_field k0'
    exact ⟨s, A, c, l, rfl, hN, hA, hs⟩
theorem lim_open {H : Type} {enc : TypeId × Value → H} {W : World} {base b0 : Nat} {r : Reach} {v : Value} {d : DataW H} {p : List MemPlace} (hok : Value.okWide Tryz.prog W r b0 54 v)
  (h : DataW.Trod enc Tryz.prog W base (fun _ => true) true 54 v d p) : ∃ b m, v = .agg #[.int .i64 b, .int .i64 m] ∧ (-9223372036854775808 ≤ b ∧ b ≤ 9223372036854775807) := by
 obtain ⟨cs, rfl, hsz⟩ := okWide_struct Tryz.underlying54 hok
 obtain ⟨fuel, hf⟩ := h
 obtain ⟨xs, n, _, hx, hlen, hxl, hg⟩ := DataW.trod_struct Tryz.underlying54 hf
 obtain ⟨cs⟩ := cs
 rw [ptw_cellsL] at hlen
 simp [Value.cells] at hlen
 have h0 : DataW.trod enc Tryz.prog W base (fun _ => true) true n 3 ((cs.drop 0).take (Tryz.prog.cellsOf 3)) = xs[0]? := hg 0 _ rfl
 have h1 : DataW.trod enc Tryz.prog W base (fun _ => true) true n 3 ((cs.drop 1).take (Tryz.prog.cellsOf 3)) = xs[1]? := hg 1 _ rfl
 rw [nrow_cells1] at h0 h1
 match cs, hlen with
 | [v0, v1], _ =>
  match xs, hxl with
  | [y0, y1], _ =>
   obtain ⟨n0, e0, w0⟩ := int_trod h0 rfl
   obtain ⟨n1, e1, w1⟩ := int_trod h1 rfl
   simp at e0 e1
   subst e0
   subst e1
   exact ⟨n0, n1, rfl, w0⟩
end Go.Proofs.YtajgfmfopkggdaaGreat
