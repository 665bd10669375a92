/-
  The reference's Shr of big numbers.
  big: Int of the program and of the reference.
  cells: the order in which one meets cells who goes through the quarters of a node; plain.
  cells: a tree's cells; trees with the same cells around the same middle are shrunk to one; plain.
  cells: shrunk trees with the same cells around the same middle are one; plain.
  cells: a list with a node that has cells, plain (the reference's place).
  cells: lists of cells in order, the last one's state of each place; a tree's cells as a list; plain.
  cells: slices of cells in memory; the reference's order, Great, Same.
  a range over slices.Backward whose invariants may count draws; limb.trim and limb.Cmp, which draw no less.
-/
import Derived.Test.YtmfncapgikobkaaGreatGBigF
import Derived.Test.YtmfncapgikobkaaGreatGRBits
import Derived.Test.YtmfncapgikobkaaGreatGNcRA
import Derived.Test.YtmfncapgikobkaaGreatGNdRight

namespace Go.Proofs.YtmfncapgikobkaaGreat
set_option maxRecDepth 100000
set_option linter.unusedVariables false
set_option linter.unusedSimpArgs false
open Go.RowKit Num
theorem Us.alloc {w : World} {A : Option Addr} {c : Nat} {xs : List Nat} (h : Us w A c xs) (o : Obj) : Us (w.alloc o) A c xs := h.below ((Below.refl _ w).alloc (Nat.le_refl _) o)
def ShrCut (w : World) (s : Bool) (A : Option Addr) (c m : Nat) (z : Int) (k : Nat) (s5 : Value) (wx : World) : Prop :=
 ∃ g A2 c2 s2 r2, s5 = .pointer (some ⟨g, 0, none⟩) ∧ Us wx A2 c2 r2 ∧ CanonI s2 r2 ∧ ival s2 r2 = z ∧ r2.length ≤ k ∧ Box wx g (.bool s2) (.slice A2 r2.length c2) ∧ Box wx w.heap.size (.bool s) (.slice A m c) ∧ Box wx (w.heap.size + 1) (.bool false) (.slice none 0 0) ∧ w.heap.size + 1 < g ∧ Below w.heap.size w wx
theorem Box.far {w : World} {g g' o : Nat} {x y : Value} (h : Box w g x y) (hne : g ≠ g') (v : Value) : Box (w.setCell ⟨g', o, none⟩ v) g x y := by
 obtain ⟨h1, h2, h3, h4, h5⟩ := h
 refine ⟨?_, ?_, ?_, ?_, by simpa using h5⟩
 ·
  rw [World.cell?_setCell_other _ _ _ _ (by simp [Ne.symm hne])]; exact h1
 ·
  rw [World.cell?_setCell_other _ _ _ _ (by simp [Ne.symm hne])]; exact h2
 ·
  rw [World.frozen?_setCell]; exact h3
 ·
  rw [World.frozen?_setCell]; exact h4
theorem ShrCut.alloc {w w2 : World} {s s2 : Bool} {A A2 : Option Addr} {c c2 m k : Nat} {z : Int} {r2 : List Nat} (hb : Below w.heap.size w w2) (hX : Box w2 w.heap.size (.bool s) (.slice A m c)) (hR : Box w2 (w.heap.size + 1) (.bool false) (.slice none 0 0))
  (q2 : Us w2 A2 c2 r2) (k2 : CanonI s2 r2) (v2 : ival s2 r2 = z) (hl : r2.length ≤ k) (t : TypeId) : ShrCut w s A c m z k (.pointer (some ⟨w2.heap.size, 0, none⟩)) (w2.alloc (.cells #[.bool s2, .slice A2 r2.length c2] t)) :=
 ⟨_, A2, c2, s2, r2, rfl, q2.alloc _, k2, v2, hl, Box.new _ _ _ _, hX.alloc _, hR.alloc _, hR.2.2.2.2, hb.alloc hb.size _⟩
theorem ShrCut.set {w w2 : World} {s s2 s0 : Bool} {A A2 A0 : Option Addr} {c c2 m k g n0 c0 : Nat} {z : Int} {r2 : List Nat} (hb : Below w.heap.size w w2) (hX : Box w2 w.heap.size (.bool s) (.slice A m c)) (hR : Box w2 (w.heap.size + 1) (.bool false) (.slice none 0 0))
  (hg : w.heap.size + 1 < g) (hQ : Box w2 g (.bool s0) (.slice A0 n0 c0)) (q2 : Us w2 A2 c2 r2) (k2 : CanonI s2 r2) (v2 : ival s2 r2 = z) (hl : r2.length ≤ k) :
  ShrCut w s A c m z k (.pointer (some ⟨g, 0, none⟩)) ((w2.setCell ⟨g, 0, none⟩ (.bool s2)).setCell ⟨g, 1, none⟩ (.slice A2 r2.length c2)) :=
 ⟨g, A2, c2, s2, r2, rfl, q2.boxed hQ _ _, k2, v2, hl, hQ.set _ _, (hX.far (by omega) _).far (by omega) _, (hR.far (by omega) _).far (by omega) _, hg, (hb.setCell (p := ⟨g, 0, none⟩) (by simp; omega) _).setCell (p := ⟨g, 1, none⟩) (by simp; omega) _⟩
end Go.Proofs.YtmfncapgikobkaaGreat

namespace Go.Proofs.YtmfncapgikobkaaGreat
set_option maxRecDepth 100000
set_option linter.unusedVariables false
set_option linter.unusedSimpArgs false
open Go.RowKit Num
def inI (x : Int) : Bool := decide (-9223372036854775808 ≤ x ∧ x ≤ 9223372036854775807)
def outI (x : Int) : Int := if inI x = true then x else 0
theorem inI_yes {x : Int} (h : -9223372036854775808 ≤ x ∧ x ≤ 9223372036854775807) : inI x = true ∧ outI x = x := by
 have : inI x = true := decide_eq_true h
 exact ⟨this, by unfold outI; rw [if_pos this]⟩
theorem inI_no {x : Int} (h : ¬ (-9223372036854775808 ≤ x ∧ x ≤ 9223372036854775807)) : inI x = false ∧ outI x = 0 := by
 have : inI x = false := decide_eq_false h
 exact ⟨this, by unfold outI; rw [this]; rfl⟩
set_option maxRecDepth 100000 in
theorem fits_yes (n : Int) (w : World) :
  Calls Tryz.prog 69 #[.int .i64 n, .bool true] w fun e w' => e = .returned (.tuple #[.int .i64 n, .bool true]) ∧ w = w' := by
 go_enter Tryz.func69, Tryz.ntmps69
 go_wp2
 go_ret2
 exact ⟨rfl, rfl⟩
set_option maxRecDepth 100000 in
theorem fits_no (n : Int) (w : World) :
  Calls Tryz.prog 69 #[.int .i64 n, .bool false] w fun e w' => e = .returned (.tuple #[.int .i64 0, .bool false]) ∧ w = w' := by
 go_enter Tryz.func69, Tryz.ntmps69
 go_wp2
 go_ret2
 exact ⟨rfl, rfl⟩
theorem fits_pos (v : Nat) (w : World) :
  Calls Tryz.prog 69 #[.int .i64 (wrap64 (v : Int)), .bool (decide ((v : Int) ≤ 9223372036854775807))] w fun e w' => e = .returned (.tuple #[.int .i64 (outI v), .bool (inI v)]) ∧ w = w' := by
 by_cases h : (v : Int) ≤ 9223372036854775807
 ·
  obtain ⟨h1, h2⟩ := inI_yes (x := v) ⟨by omega, h⟩
  rw [decide_eq_true h, h1, h2, IntWalk.wrap64_in _ ⟨by omega, h⟩]
  exact fits_yes _ w
 ·
  obtain ⟨h1, h2⟩ := inI_no (x := v) (by omega)
  rw [decide_eq_false h, h1, h2]
  exact fits_no _ w
theorem fits_neg (v : Nat) (w : World) :
  Calls Tryz.prog 69 #[.int .i64 (wrap64 (-wrap64 (v : Int))), .bool (decide ((v : Int) ≤ 9223372036854775808))] w fun e w' => e = .returned (.tuple #[.int .i64 (outI (-v)), .bool (inI (-v))]) ∧ w = w' := by
 by_cases h : (v : Int) ≤ 9223372036854775808
 ·
  obtain ⟨h1, h2⟩ := inI_yes (x := -v) ⟨by omega, by omega⟩
  have e : wrap64 (-wrap64 (v : Int)) = -v := by unfold wrap64; omega
  rw [decide_eq_true h, h1, h2, e]
  exact fits_yes _ w
 ·
  obtain ⟨h1, h2⟩ := inI_no (x := -v) (by omega)
  rw [decide_eq_false h, h1, h2]
  exact fits_no _ w
theorem or_zero_u64 (a : Nat) (ha : a < 4294967296) : bits .or .u64 0 (a : Int) = (a : Int) := by
 have e := u64_or_nat 0 a (by decide) (by omega)
 rw [Nat.zero_or] at e
 exact e
theorem or_two_u64 (a b : Nat) (ha : a < 4294967296) (hb : b < 4294967296) : bits .or .u64 (bits .or .u64 0 (a : Int)) ((b : Int) * 4294967296) = ((val [a, b] : Nat) : Int) := by
 have e := u64_or_nat a (b * 4294967296) (by omega) (by omega)
 rw [or_zero_u64 a ha, show ((b : Int) * 4294967296) = ((b * 4294967296 : Nat) : Int) by simp, e]
 rw [Nat.or_comm, nat_join 32 _ _ (by simp) ha]
 simp only [val]
 omega
set_option maxRecDepth 100000 in
set_option maxHeartbeats 1600000 in
theorem bint_two (s : Bool) (A : Option Addr) (c : Nat) (a b : Nat) (w : World) (h : Us w A c [a, b]) :
  Calls Tryz.prog 39 #[.agg #[.bool s, .slice A 2 c]] w fun e w' => e = .returned (.tuple #[.int .i64 (outI (ival s [a, b])), .bool (inI (ival s [a, b]))]) ∧ Below w.heap.size w w' := by
 obtain ⟨hX, hB⟩ := box1 w (.bool s) (.slice A 2 c) 42
 have h1 := h.below hB
 obtain ⟨g, off, rfl, hg, hc⟩ := h1.at_ (by simp)
 have c0 := hc 0 (by simp)
 have c1 := hc 1 (by simp)
 simp only [List.getElem?_cons_zero, List.getElem?_cons_succ, Option.getD_some, Nat.add_zero] at c0 c1
 have ha := h.1.head
 have hb := h.1.tail.head
 have HB := Lib.hid hB
 clear hc h h1 hX hB
 unfold ival
 have HE := Lib.hid (or_two_u64 a b ha hb)
 generalize val [a, b] = v at *
 go_enter Tryz.func39, Tryz.ntmps39
 go_wp2_with fail
 refine wp_loop_rounds 3 ?_
 rw [rounds_succ]
 go_wp2_with fail
 rw [rounds_succ]
 go_wp2_with fail
 rw [rounds_succ]
 cases s
 ·
  go_wp2_with (go_at_call 69; rw [HE.out]; refine (fits_pos v _).mono ?_; rintro e w' ⟨rfl, rfl⟩)
  go_ret2
  exact ⟨rfl, HB.out⟩
 ·
  go_wp2_with (go_at_call 69; rw [HE.out]; refine (fits_neg v _).mono ?_; rintro e w' ⟨rfl, rfl⟩)
  go_ret2
  exact ⟨rfl, HB.out⟩
set_option maxRecDepth 100000 in
set_option maxHeartbeats 1600000 in
theorem bint_one (s : Bool) (A : Option Addr) (c : Nat) (a : Nat) (w : World) (h : Us w A c [a]) :
  Calls Tryz.prog 39 #[.agg #[.bool s, .slice A 1 c]] w fun e w' => e = .returned (.tuple #[.int .i64 (outI (ival s [a])), .bool (inI (ival s [a]))]) ∧ Below w.heap.size w w' := by
 obtain ⟨hX, hB⟩ := box1 w (.bool s) (.slice A 1 c) 42
 have h1 := h.below hB
 obtain ⟨g, off, rfl, hg, hc⟩ := h1.at_ (by simp)
 have c0 := hc 0 (by simp)
 simp only [List.getElem?_cons_zero, List.getElem?_cons_succ, Option.getD_some, Nat.add_zero] at c0
 have ha := h.1.head
 have HB := Lib.hid hB
 clear hc h h1 hX hB
 have ev : val [a] = a := by simp [val]
 unfold ival
 rw [ev]
 have HE := Lib.hid (or_zero_u64 a ha)
 clear ev
 go_enter Tryz.func39, Tryz.ntmps39
 go_wp2_with fail
 refine wp_loop_rounds 2 ?_
 rw [rounds_succ]
 go_wp2_with fail
 rw [rounds_succ]
 cases s
 ·
  go_wp2_with (go_at_call 69; rw [HE.out]; refine (fits_pos a _).mono ?_; rintro e w' ⟨rfl, rfl⟩)
  go_ret2
  exact ⟨rfl, HB.out⟩
 ·
  go_wp2_with (go_at_call 69; rw [HE.out]; refine (fits_neg a _).mono ?_; rintro e w' ⟨rfl, rfl⟩)
  go_ret2
  exact ⟨rfl, HB.out⟩
set_option maxRecDepth 100000 in
set_option maxHeartbeats 1600000 in
theorem bint_zero (s : Bool) (A : Option Addr) (c : Nat) (w : World) :
  Calls Tryz.prog 39 #[.agg #[.bool s, .slice A 0 c]] w fun e w' => e = .returned (.tuple #[.int .i64 (outI 0), .bool (inI 0)]) ∧ Below w.heap.size w w' := by
 obtain ⟨hX, hB⟩ := box1 w (.bool s) (.slice A 0 c) 42
 have HB := Lib.hid hB
 clear hX hB
 go_enter Tryz.func39, Tryz.ntmps39
 go_wp2_with fail
 refine wp_loop_rounds 1 ?_
 rw [rounds_succ]
 cases s
 all_goals
  go_wp2_with (go_at_call 69; refine (fits_yes 0 _).mono ?_; rintro e w' ⟨rfl, rfl⟩)
  go_ret2
  exact ⟨rfl, HB.out⟩
set_option maxRecDepth 100000 in
set_option maxHeartbeats 1600000 in
theorem bint_more (s : Bool) (A : Option Addr) (c n : Nat) (w : World) (hn : 2 < n) (hc : n ≤ 9223372036854775807) :
  Calls Tryz.prog 39 #[.agg #[.bool s, .slice A n c]] w fun e w' => e = .returned (.tuple #[.int .i64 0, .bool false]) ∧ Below w.heap.size w w' := by
 obtain ⟨hX, hB⟩ := box1 w (.bool s) (.slice A n c) 42
 have HB := Lib.hid hB
 clear hX hB
 go_enter Tryz.func39, Tryz.ntmps39
 go_wp2_with fail
 go_ret2
 exact ⟨rfl, HB.out⟩
theorem bint_any (s : Bool) (A : Option Addr) (c : Nat) (xs : List Nat) (w : World) (h : Us w A c xs) (hc : Canon xs) :
  Calls Tryz.prog 39 #[.agg #[.bool s, .slice A xs.length c]] w fun e w' => e = .returned (.tuple #[.int .i64 (outI (ival s xs)), .bool (inI (ival s xs))]) ∧ Below w.heap.size w w' := by
 rcases xs with _ | ⟨a, _ | ⟨b, _ | ⟨d, r⟩⟩⟩
 ·
  rw [ival_nil]
  exact bint_zero s A c w
 ·
  exact bint_one s A c a w h
 ·
  exact bint_two s A c a b w h
 ·
  have hge := canon_ge hc (by simp)
  have h2 : (4294967296 : Nat) ^ 2 ≤ 4294967296 ^ ((a :: b :: d :: r).length - 1) := Nat.pow_le_pow_right (by decide) (by simp)
  have hv := val_ival s (a :: b :: d :: r)
  obtain ⟨h1, h2⟩ := inI_no (x := ival s (a :: b :: d :: r)) (by omega)
  rw [h1, h2]
  exact bint_more s A c _ w (by simp) (by have := h.cap; omega)
end Go.Proofs.YtmfncapgikobkaaGreat

namespace Go.Proofs.YtmfncapgikobkaaGreat.Nds
set_option maxRecDepth 100000
set_option linter.unusedVariables false
set_option linter.unusedSimpArgs false
open Num
def prtN (a b : Nat) : Nat := blen (a ^^^ b)
theorem blen_le_iff (n k : Nat) : blen n ≤ k ↔ n < 2 ^ k := by
 constructor
 ·
  intro h
  exact Nat.lt_of_lt_of_le (lt_blen n) (Nat.pow_le_pow_right (by decide) h)
 ·
  intro h
  by_cases h0 : n = 0
  ·
   subst h0; show blen 0 ≤ k; unfold blen; simp
  ·
   have h1 := blen_ge h0
   rcases Nat.lt_or_ge k (blen n) with h2 | h2
   ·
    have := Nat.pow_le_pow_right (n := 2) (by decide) (show k ≤ blen n - 1 by omega)
    omega
   ·
    exact h2
theorem xor_zero {a b : Nat} (h : a ^^^ b = 0) : a = b := by
 refine Nat.eq_of_testBit_eq fun i => ?_
 have := congrArg (fun n => n.testBit i) h
 simp only [Nat.testBit_xor, Nat.zero_testBit] at this
 cases h1 : a.testBit i <;> cases h2 : b.testBit i <;> simp_all
theorem part_le (a b k : Nat) : prtN a b ≤ k ↔ a / 2 ^ k = b / 2 ^ k := by
 unfold prtN
 rw [blen_le_iff]
 have e1 : (a ^^^ b) < 2 ^ k ↔ (a ^^^ b) / 2 ^ k = 0 := by
  rw [Nat.div_eq_zero_iff]
  have := Nat.two_pow_pos k
  constructor
  ·
   intro h; exact .inr h
  ·
   rintro (h | h)
   ·
    omega
   ·
    exact h
 rw [e1, ← Nat.shiftRight_eq_div_pow, Nat.shiftRight_xor_distrib, Nat.shiftRight_eq_div_pow, Nat.shiftRight_eq_div_pow]
 constructor
 ·
  exact xor_zero
 ·
  intro h
  rw [h, Nat.xor_self]
theorem part_zero (a b : Nat) : prtN a b = 0 ↔ a = b := by
 have := part_le a b 0
 simp only [Nat.le_zero, Nat.pow_zero, Nat.div_one] at this
 exact this
theorem part_half {a b : Nat} (h : a ≠ b) : prtN a b = prtN (a / 2) (b / 2) + 1 := by
 have e : ∀ k, prtN a b ≤ k + 1 ↔ prtN (a / 2) (b / 2) ≤ k := fun k => by
  rw [part_le, part_le, Nat.div_div_eq_div_mul, Nat.div_div_eq_div_mul, Nat.pow_succ, Nat.mul_comm (2 ^ k) 2]
 have h0 : prtN a b ≠ 0 := fun e => h ((part_zero a b).1 e)
 have h1 := (e (prtN a b - 1)).1 (by omega)
 have h2 := (e (prtN (a / 2) (b / 2))).2 (Nat.le_refl _)
 omega
def zq (x y : Nat) : Nat := if h : x = 0 ∧ y = 0 then 0 else 4 * zq (x / 2) (y / 2) + x % 2 + 2 * (y % 2)
 termination_by x + y
 decreasing_by omega
theorem zq_step (x y : Nat) : zq x y = 4 * zq (x / 2) (y / 2) + x % 2 + 2 * (y % 2) := by
 by_cases h : x = 0 ∧ y = 0
 ·
  obtain ⟨rfl, rfl⟩ := h
  have e : zq 0 0 = 0 := by rw [zq]; simp
  rw [show 0 / 2 = 0 from rfl, e]
 ·
  conv => lhs; rw [zq]
  rw [dif_neg h]
theorem zq_inj : ∀ (n x y u v : Nat), x + y + u + v ≤ n → zq x y = zq u v → x = u ∧ y = v
 | 0, x, y, u, v, hn, _ => by omega
 | n + 1, x, y, u, v, hn, h => by
  rw [zq_step x y, zq_step u v] at h
  by_cases h0 : x + y + u + v = 0
  ·
   omega
  ·
   have := zq_inj n (x / 2) (y / 2) (u / 2) (v / 2) (by omega) (by omega)
   omega
theorem zq_eq {x y u v : Nat} (h : zq x y = zq u v) : x = u ∧ y = v := zq_inj _ x y u v (Nat.le_refl _) h
def aheadZ (ax ay bx bY : Nat) : Prop := if prtN ay bY < prtN ax bx then ax < bx else ay < bY
theorem ahead_zq : ∀ (n ax ay bx bY : Nat), ax + ay + bx + bY ≤ n → (aheadZ ax ay bx bY ↔ zq ax ay < zq bx bY)
 | 0, ax, ay, bx, bY, hn => by
  obtain ⟨rfl, rfl, rfl, rfl⟩ : ax = 0 ∧ ay = 0 ∧ bx = 0 ∧ bY = 0 := by omega
  unfold aheadZ
  simp
 | n + 1, ax, ay, bx, bY, hn => by
  have sa := zq_step ax ay
  have sb := zq_step bx bY
  unfold aheadZ
  by_cases hs : ax / 2 = bx / 2 ∧ ay / 2 = bY / 2
  ·
   rw [hs.1, hs.2] at sa
   by_cases hy : ay = bY
   ·
    have py : prtN ay bY = 0 := (part_zero _ _).2 hy
    by_cases hx : ax = bx
    ·
     have px : prtN ax bx = 0 := (part_zero _ _).2 hx
     rw [px, py, if_neg (Nat.lt_irrefl 0), hx, hy]
     omega
    ·
     have px : prtN ax bx ≠ 0 := fun e => hx ((part_zero _ _).1 e)
     rw [if_pos (by omega)]
     omega
   ·
    have py := part_half hy
    have py0 : prtN (ay / 2) (bY / 2) = 0 := (part_zero _ _).2 hs.2
    have px : prtN ax bx ≤ 1 := by
     by_cases hx : ax = bx
     ·
      have := (part_zero _ _).2 hx; omega
     ·
      have h1 := part_half hx
      have h2 : prtN (ax / 2) (bx / 2) = 0 := (part_zero _ _).2 hs.1
      omega
    rw [if_neg (by omega)]
    omega
  ·
   have ih := ahead_zq n (ax / 2) (ay / 2) (bx / 2) (bY / 2) (by
    rcases Nat.eq_zero_or_pos (ax + ay + bx + bY) with h0 | h0
    ·
     exact absurd ⟨by omega, by omega⟩ hs
    ·
     omega)
   have hz : zq (ax / 2) (ay / 2) ≠ zq (bx / 2) (bY / 2) := fun e => hs (zq_eq e)
   have hcmp : zq ax ay < zq bx bY ↔ zq (ax / 2) (ay / 2) < zq (bx / 2) (bY / 2) := by omega
   rw [hcmp, ← ih]
   unfold aheadZ
   by_cases hy : ay = bY
   ·
    have hy2 : ay / 2 = bY / 2 := by omega
    have hx2 : ax / 2 ≠ bx / 2 := fun e => hs ⟨e, hy2⟩
    have hx : ax ≠ bx := fun e => hx2 (by omega)
    have p1 := part_half hx
    have p2 : prtN ay bY = 0 := (part_zero _ _).2 hy
    have p3 : prtN (ay / 2) (bY / 2) = 0 := (part_zero _ _).2 hy2
    have p4 : prtN (ax / 2) (bx / 2) ≠ 0 := fun e => hx2 ((part_zero _ _).1 e)
    rw [if_pos (by omega), if_pos (by omega)]
    omega
   ·
    have py := part_half hy
    by_cases hx : ax = bx
    ·
     have px : prtN ax bx = 0 := (part_zero _ _).2 hx
     have hx2 : ax / 2 = bx / 2 := by omega
     have px2 : prtN (ax / 2) (bx / 2) = 0 := (part_zero _ _).2 hx2
     have hy2 : ay / 2 ≠ bY / 2 := fun e => hs ⟨hx2, e⟩
     rw [if_neg (by omega), if_neg (by omega)]
     omega
    ·
     have px := part_half hx
     by_cases hc : prtN (ay / 2) (bY / 2) < prtN (ax / 2) (bx / 2)
     ·
      rw [if_pos (by omega), if_pos hc]
      have hx2 : ax / 2 ≠ bx / 2 := fun e => by have := (part_zero _ _).2 e; omega
      omega
     ·
      rw [if_neg (by omega), if_neg hc]
      have hy2 : ay / 2 ≠ bY / 2 := fun e => by
       have h1 := (part_zero _ _).2 e
       have h2 : ax / 2 = bx / 2 := (part_zero _ _).1 (by omega)
       exact hs ⟨h2, e⟩
      omega
theorem ahead_iff (ax ay bx bY : Nat) : aheadZ ax ay bx bY ↔ zq ax ay < zq bx bY := ahead_zq _ ax ay bx bY (Nat.le_refl _)
def qtr (m x y : Nat) : Nat := x / 2 ^ m % 2 + 2 * (y / 2 ^ m % 2)
theorem qtr_lt (m x y : Nat) : qtr m x y < 4 := by unfold qtr; omega
theorem zq_div : ∀ (m x y : Nat), zq x y / 4 ^ m = zq (x / 2 ^ m) (y / 2 ^ m)
 | 0, x, y => by simp
 | m + 1, x, y => by
  have h := zq_div m (x / 2) (y / 2)
  rw [Nat.pow_succ, Nat.mul_comm (4 ^ m) 4, ← Nat.div_div_eq_div_mul, show zq x y / 4 = zq (x / 2) (y / 2) by have := zq_step x y; omega, h, Nat.div_div_eq_div_mul, Nat.div_div_eq_div_mul, Nat.pow_succ, Nat.mul_comm (2 ^ m) 2]
theorem qtr_mono {m ax ay bx bY : Nat} (hx : ax / 2 ^ (m + 1) = bx / 2 ^ (m + 1)) (hy : ay / 2 ^ (m + 1) = bY / 2 ^ (m + 1)) (h : zq ax ay ≤ zq bx bY) : qtr m ax ay ≤ qtr m bx bY := by
 have h1 := Nat.div_le_div_right (c := 4 ^ m) h
 rw [zq_div, zq_div, zq_step (ax / 2 ^ m), zq_step (bx / 2 ^ m)] at h1
 rw [Nat.pow_succ, ← Nat.div_div_eq_div_mul, ← Nat.div_div_eq_div_mul] at hx hy
 rw [hx, hy] at h1
 unfold qtr
 omega
theorem part_limb {xs ys : List Nat} (hx : Dig xs) (hy : Dig ys) {i : Nat} (he : ∀ j, i < j → xs[j]?.getD 0 = ys[j]?.getD 0) (hn : xs[i]?.getD 0 ≠ ys[i]?.getD 0) :
  prtN (val xs) (val ys) = 32 * i + blen (xs[i]?.getD 0 ^^^ ys[i]?.getD 0) := by
 obtain ⟨u, hu⟩ : ∃ u, u = xs[i]?.getD 0 ^^^ ys[i]?.getD 0 := ⟨_, rfl⟩
 have hu0 : u ≠ 0 := fun e => hn (xor_zero (hu.symm.trans e))
 have hL := lt_blen u
 have hG := blen_ge hu0
 have hb0 : blen u ≠ 0 := fun e => by rw [e] at hL; simp at hL; exact hu0 hL
 have hb32 : blen u ≤ 32 := by
  rw [blen_le_iff, hu]
  exact Nat.xor_lt_two_pow (n := 32) (hx.getD _) (hy.getD _)
 rw [← hu]
 unfold prtN
 have hbit : ∀ k, (val xs ^^^ val ys).testBit k = ((xs[k / 32]?.getD 0).testBit (k % 32) != (ys[k / 32]?.getD 0).testBit (k % 32)) := fun k => by
  rw [Nat.testBit_xor, val_testBit hx, val_testBit hy]
 refine blen_eq ?_ (.inr ?_)
 ·
  refine Nat.lt_pow_two_of_testBit _ fun k hk => ?_
  rw [hbit]
  rcases Nat.lt_or_ge i (k / 32) with h1 | h1
  ·
   rw [he _ h1]
   simp
  ·
   have h2 : k / 32 = i := by omega
   rw [h2]
   have h3 : u.testBit (k % 32) = false := Nat.testBit_lt_two_pow (Nat.lt_of_lt_of_le hL (Nat.pow_le_pow_right (by decide) (by omega)))
   rw [hu, Nat.testBit_xor] at h3
   exact h3
 ·
  refine Nat.ge_two_pow_of_testBit (i := 32 * i + blen u - 1) ?_
  rw [hbit]
  have h2 : (32 * i + blen u - 1) / 32 = i := by omega
  have h3 : (32 * i + blen u - 1) % 32 = blen u - 1 := by omega
  rw [h2, h3]
  have h4 : u.testBit (blen u - 1) = true := by
   have h5 : u / 2 ^ (blen u - 1) = 1 := by
    have h6 : u < 2 ^ (blen u - 1) * 2 := by rw [← Nat.pow_succ, show (blen u - 1).succ = blen u by omega]; exact hL
    have h7 := Nat.div_lt_of_lt_mul h6
    have h8 := (Nat.one_le_div_iff (Nat.two_pow_pos _)).2 hG
    omega
   rw [Nat.testBit_eq_decide_div_mod_eq, h5]
   rfl
  rw [hu, Nat.testBit_xor, ← hu] at h4
  exact h4
theorem part_none {xs ys : List Nat} (hx : Dig xs) (hy : Dig ys) (he : ∀ j : Nat, xs[j]?.getD 0 = ys[j]?.getD 0) : prtN (val xs) (val ys) = 0 := by
 rw [part_zero]
 refine Nat.eq_of_testBit_eq fun k => ?_
 rw [val_testBit hx, val_testBit hy, he]
end Go.Proofs.YtmfncapgikobkaaGreat.Nds

namespace Go.Proofs.YtmfncapgikobkaaGreat.Nds
set_option maxRecDepth 100000
set_option linter.unusedVariables false
set_option linter.unusedSimpArgs false
def p2 (n : Nat) : Int := (2 : Int) ^ n
theorem p2_zero : p2 0 = 1 := rfl
theorem p2_succ (n : Nat) : p2 (n + 1) = p2 n + p2 n := by
 unfold p2
 rw [Int.pow_succ]
 omega
theorem p2_pos : ∀ n, 1 ≤ p2 n
 | 0 => Int.le_refl 1
 | n + 1 => by
  have := p2_pos n
  rw [p2_succ]
  omega
theorem p2_mono {m n : Nat} (h : m ≤ n) : p2 m ≤ p2 n := by
 induction n with
 | zero => rw [show m = 0 by omega]; exact Int.le_refl _
 | succ n ih =>
  rcases Nat.lt_or_ge m (n + 1) with h1 | h1
  ·
   have h2 := ih (by omega)
   have h3 := p2_pos n
   rw [p2_succ]
   omega
  ·
   rw [show m = n + 1 by omega]
   exact Int.le_refl _
def cellC : Tr → Int → Int → Int
 | .e, _, _ => 0
 | .s k, x, y => if x = 0 ∧ y = 0 then k else 0
 | .n v a b c d, x, y =>
  if x < p2 (v.toNat - 1) then (if y < p2 (v.toNat - 1) then cellC a x y else cellC c x (y - p2 (v.toNat - 1)))
  else (if y < p2 (v.toNat - 1) then cellC b (x - p2 (v.toNat - 1)) y else cellC d (x - p2 (v.toNat - 1)) (y - p2 (v.toNat - 1)))
theorem cellC_e (x y : Int) : cellC .e x y = 0 := rfl
theorem cell_in : ∀ (t : Tr) (n : Nat) (x y : Int), wfT (n : Int) t → cellC t x y ≠ 0 → 0 ≤ x ∧ x < p2 n ∧ 0 ≤ y ∧ y < p2 n
 | .e, _, _, _, _, h => absurd rfl h
 | .s k, n, x, y, hw, h => by
  unfold cellC at h
  have hn : (n : Int) = 0 := hw.1
  have : n = 0 := by omega
  subst this
  split at h
  ·
   rename_i hxy
   rw [p2_zero]
   omega
  ·
   exact absurd rfl h
 | .n v a b c d, n, x, y, hw, h => by
  obtain ⟨hv, h1, h2, ha, hb, hc, hd, _⟩ := hw
  subst hv
  obtain ⟨m, rfl⟩ : ∃ m, n = m + 1 := ⟨n - 1, by omega⟩
  rw [show (((m + 1 : Nat) : Int) - 1) = (m : Int) by omega] at ha hb hc hd
  have e : (((m + 1 : Nat) : Int).toNat - 1) = m := by omega
  unfold cellC at h
  rw [e] at h
  have hp := p2_pos m
  rw [p2_succ]
  split at h
  ·
   split at h
   ·
    have := cell_in a m x y ha h
    omega
   ·
    have := cell_in c m _ _ hc h
    omega
  ·
   split at h
   ·
    have := cell_in b m _ _ hb h
    omega
   ·
    have := cell_in d m _ _ hd h
    omega
theorem cell_q {m : Nat} {a b c d : Tr} (ha : wfT (m : Int) a) (hb : wfT (m : Int) b) (hc : wfT (m : Int) c) (hd : wfT (m : Int) d) (x y : Int) :
    cellC (.n ((m : Int) + 1) a b c d) x y = cellC a x y + cellC b (x - p2 m) y + cellC c x (y - p2 m) + cellC d (x - p2 m) (y - p2 m) := by
  have e : (((m : Int) + 1).toNat - 1) = m := by omega
  have hp := p2_pos m
  have za : ¬ (0 ≤ x ∧ x < p2 m ∧ 0 ≤ y ∧ y < p2 m) → cellC a x y = 0 := fun h => Classical.byContradiction fun h2 => h (cell_in a m x y ha h2)
  have zb : ¬ (0 ≤ x - p2 m ∧ x - p2 m < p2 m ∧ 0 ≤ y ∧ y < p2 m) → cellC b (x - p2 m) y = 0 := fun h => Classical.byContradiction fun h2 => h (cell_in b m _ _ hb h2)
  have zc : ¬ (0 ≤ x ∧ x < p2 m ∧ 0 ≤ y - p2 m ∧ y - p2 m < p2 m) → cellC c x (y - p2 m) = 0 := fun h => Classical.byContradiction fun h2 => h (cell_in c m _ _ hc h2)
  have zd : ¬ (0 ≤ x - p2 m ∧ x - p2 m < p2 m ∧ 0 ≤ y - p2 m ∧ y - p2 m < p2 m) → cellC d (x - p2 m) (y - p2 m) = 0 := fun h => Classical.byContradiction fun h2 => h (cell_in d m _ _ hd h2)
  show (if x < p2 (((m : Int) + 1).toNat - 1) then (if y < p2 (((m : Int) + 1).toNat - 1) then cellC a x y else cellC c x (y - p2 (((m : Int) + 1).toNat - 1)))
    else (if y < p2 (((m : Int) + 1).toNat - 1) then cellC b (x - p2 (((m : Int) + 1).toNat - 1)) y else cellC d (x - p2 (((m : Int) + 1).toNat - 1)) (y - p2 (((m : Int) + 1).toNat - 1)))) = _
  rw [e]
  split
  · split
    · rw [zb (by omega), zc (by omega), zd (by omega)]
      omega
    · rw [za (by omega), zb (by omega), zd (by omega)]
      omega
  · split
    · rw [za (by omega), zc (by omega), zd (by omega)]
      omega
    · rw [za (by omega), zb (by omega), zc (by omega)]
      omega
theorem wf_n {n : Nat} {v : Int} {a b c d : Tr} (hw : wfT (n : Int) (.n v a b c d)) : ∃ m : Nat, n = m + 1 ∧ v = (m : Int) + 1 ∧ wfT (m : Int) a ∧ wfT (m : Int) b ∧ wfT (m : Int) c ∧ wfT (m : Int) d ∧ (n : Int) ≤ 1329 := by
 obtain ⟨hv, h1, h2, ha, hb, hc, hd, _⟩ := hw
 refine ⟨n - 1, by omega, by omega, ?_⟩
 have e : ((n - 1 : Nat) : Int) = v - 1 := by omega
 rw [e]
 exact ⟨ha, hb, hc, hd, by omega⟩
theorem cell_some : ∀ (t : Tr) (n : Nat), wfT (n : Int) t → t ≠ .e → ∃ x y, cellC t x y ≠ 0
 | .e, _, _, h => absurd rfl h
 | .s k, n, hw, _ => ⟨0, 0, by
  have h1 : cellC (.s k) 0 0 = k := rfl
  rw [h1]
  have := hw.2.1
  omega⟩
 | .n v a b c d, n, hw, _ => by
  obtain ⟨m, rfl, rfl, ha, hb, hc, hd, _⟩ := wf_n hw
  obtain ⟨i, hi, hne⟩ := wf_all hw
  have hp := p2_pos m
  have out : ∀ {t : Tr} {x y : Int}, wfT (m : Int) t → ¬ (0 ≤ x ∧ x < p2 m ∧ 0 ≤ y ∧ y < p2 m) → cellC t x y = 0 := fun hw h => Classical.byContradiction fun h2 => h (cell_in _ m _ _ hw h2)
  match i, hi with
  | 0, _ =>
   obtain ⟨x, y, h⟩ := cell_some a m ha hne
   have hr := cell_in a m x y ha h
   refine ⟨x, y, ?_⟩
   rw [cell_q ha hb hc hd, out hb (by omega), out hc (by omega), out hd (by omega)]
   omega
  | 1, _ =>
   obtain ⟨x, y, h⟩ := cell_some b m hb hne
   have hr := cell_in b m x y hb h
   refine ⟨x + p2 m, y, ?_⟩
   rw [cell_q ha hb hc hd, out ha (by omega), out hc (by omega), out hd (by omega), show x + p2 m - p2 m = x by omega]
   omega
  | 2, _ =>
   obtain ⟨x, y, h⟩ := cell_some c m hc hne
   have hr := cell_in c m x y hc h
   refine ⟨x, y + p2 m, ?_⟩
   rw [cell_q ha hb hc hd, out ha (by omega), out hb (by omega), out hd (by omega), show y + p2 m - p2 m = y by omega]
   omega
  | 3, _ =>
   obtain ⟨x, y, h⟩ := cell_some d m hd hne
   have hr := cell_in d m x y hd h
   refine ⟨x + p2 m, y + p2 m, ?_⟩
   rw [cell_q ha hb hc hd, out ha (by omega), out hb (by omega), out hc (by omega), show x + p2 m - p2 m = x by omega, show y + p2 m - p2 m = y by omega]
   omega
theorem cell_uniq : ∀ (t u : Tr) (n : Nat), wfT (n : Int) t → wfT (n : Int) u → (∀ x y, cellC t x y = cellC u x y) → t = u
 | .e, u, n, _, hu, h => by
  refine Classical.byContradiction fun hne => ?_
  obtain ⟨x, y, h2⟩ := cell_some u n hu (fun e => hne e.symm)
  exact h2 (h x y).symm
 | .s k, u, n, ht, hu, h => by
  have hn : (n : Int) = 0 := ht.1
  have h0 := h 0 0
  have h1 : cellC (.s k) 0 0 = k := rfl
  rw [h1] at h0
  cases u with
  | e =>
   have := ht.2.1
   rw [cellC_e] at h0
   omega
  | s k2 =>
   have h2 : cellC (.s k2) 0 0 = k2 := rfl
   rw [h2] at h0
   rw [h0]
  | n v a b c d =>
   have := hu.1
   have := hu.2.1
   omega
 | .n v a b c d, u, n, ht, hu, h => by
  obtain ⟨m, rfl, rfl, ha, hb, hc, hd, _⟩ := wf_n ht
  have hp := p2_pos m
  have out : ∀ {t : Tr} {x y : Int}, wfT (m : Int) t → ¬ (0 ≤ x ∧ x < p2 m ∧ 0 ≤ y ∧ y < p2 m) → cellC t x y = 0 := fun hw h => Classical.byContradiction fun h2 => h (cell_in _ m _ _ hw h2)
  cases u with
  | e =>
   obtain ⟨x, y, h2⟩ := cell_some _ (m + 1) ht (by simp)
   exact absurd (h x y) h2
  | s k2 =>
   have := hu.1
   omega
  | n v2 a2 b2 c2 d2 =>
   obtain ⟨m2, hm, rfl, ha2, hb2, hc2, hd2, _⟩ := wf_n hu
   have : m = m2 := by omega
   subst this
   have h' : ∀ x y, cellC a x y + cellC b (x - p2 m) y + cellC c x (y - p2 m) + cellC d (x - p2 m) (y - p2 m) = cellC a2 x y + cellC b2 (x - p2 m) y + cellC c2 x (y - p2 m) + cellC d2 (x - p2 m) (y - p2 m) := fun x y => by
    rw [← cell_q ha hb hc hd, ← cell_q ha2 hb2 hc2 hd2]
    exact h x y
   have ea : a = a2 := cell_uniq a a2 m ha ha2 fun x y => by
    by_cases hin : 0 ≤ x ∧ x < p2 m ∧ 0 ≤ y ∧ y < p2 m
    ·
     have h3 := h' x y
     rw [out hb (by omega), out hc (by omega), out hd (by omega), out hb2 (by omega), out hc2 (by omega), out hd2 (by omega)] at h3
     omega
    ·
     rw [out ha hin, out ha2 hin]
   have eb : b = b2 := cell_uniq b b2 m hb hb2 fun x y => by
    by_cases hin : 0 ≤ x ∧ x < p2 m ∧ 0 ≤ y ∧ y < p2 m
    ·
     have h3 := h' (x + p2 m) y
     rw [show x + p2 m - p2 m = x by omega, out ha (by omega), out hc (by omega), out hd (by omega), out ha2 (by omega), out hc2 (by omega), out hd2 (by omega)] at h3
     omega
    ·
     rw [out hb hin, out hb2 hin]
   have ec : c = c2 := cell_uniq c c2 m hc hc2 fun x y => by
    by_cases hin : 0 ≤ x ∧ x < p2 m ∧ 0 ≤ y ∧ y < p2 m
    ·
     have h3 := h' x (y + p2 m)
     rw [show y + p2 m - p2 m = y by omega, out ha (by omega), out hb (by omega), out hd (by omega), out ha2 (by omega), out hb2 (by omega), out hd2 (by omega)] at h3
     omega
    ·
     rw [out hc hin, out hc2 hin]
   have ed : d = d2 := cell_uniq d d2 m hd hd2 fun x y => by
    by_cases hin : 0 ≤ x ∧ x < p2 m ∧ 0 ≤ y ∧ y < p2 m
    ·
     have h3 := h' (x + p2 m) (y + p2 m)
     rw [show x + p2 m - p2 m = x by omega, show y + p2 m - p2 m = y by omega, out ha (by omega), out hb (by omega), out hc (by omega), out ha2 (by omega), out hb2 (by omega), out hc2 (by omega)] at h3
     omega
    ·
     rw [out hd hin, out hd2 hin]
   rw [ea, eb, ec, ed]
end Go.Proofs.YtmfncapgikobkaaGreat.Nds

namespace Go.Proofs.YtmfncapgikobkaaGreat.Nds
set_option maxRecDepth 100000
set_option linter.unusedVariables false
set_option linter.unusedSimpArgs false
theorem cell_mk {m : Nat} {a b c d : Tr} (ha : wfT (m : Int) a) (hb : wfT (m : Int) b) (hc : wfT (m : Int) c) (hd : wfT (m : Int) d) (x y : Int) :
  cellC (mk ((m : Int) + 1) a b c d) x y = cellC a x y + cellC b (x - p2 m) y + cellC c x (y - p2 m) + cellC d (x - p2 m) (y - p2 m) := by
 unfold mk
 split
 ·
  rename_i h
  obtain ⟨rfl, rfl, rfl, rfl⟩ := allE_iff.1 h
  rfl
 ·
  exact cell_q ha hb hc hd x y
def offX (m i : Nat) : Int := match i with | 1 => p2 m | 3 => p2 m | _ => 0
def offY (m i : Nat) : Int := match i with | 2 => p2 m | 3 => p2 m | _ => 0
theorem cell_sub {m : Nat} {t : Tr} (hw : wfT ((m : Int) + 1) t) {i : Nat} (hi : i < 4) {x y : Int} (h : cellC (t.q i) x y ≠ 0) : cellC t (x + offX m i) (y + offY m i) = cellC (t.q i) x y := by
 cases t with
 | e => exact absurd rfl h
 | s k => exact absurd rfl h
 | n v a b c d =>
  have hw' : wfT (((m + 1 : Nat)) : Int) (.n v a b c d) := hw
  obtain ⟨m', hm, rfl, ha, hb, hc, hd, _⟩ := wf_n hw'
  have : m = m' := by omega
  subst this
  have hp := p2_pos m
  have out : ∀ {t : Tr} {x y : Int}, wfT (m : Int) t → ¬ (0 ≤ x ∧ x < p2 m ∧ 0 ≤ y ∧ y < p2 m) → cellC t x y = 0 := fun hw h => Classical.byContradiction fun h2 => h (cell_in _ m _ _ hw h2)
  match i, hi with
  | 0, _ =>
   have hr := cell_in a m x y ha h
   show cellC _ (x + 0) (y + 0) = cellC a x y
   rw [Int.add_zero, Int.add_zero, cell_q ha hb hc hd, out hb (by omega), out hc (by omega), out hd (by omega)]
   omega
  | 1, _ =>
   have hr := cell_in b m x y hb h
   show cellC _ (x + p2 m) (y + 0) = cellC b x y
   rw [Int.add_zero, cell_q ha hb hc hd, out ha (by omega), out hc (by omega), out hd (by omega), show x + p2 m - p2 m = x by omega]
   omega
  | 2, _ =>
   have hr := cell_in c m x y hc h
   show cellC _ (x + 0) (y + p2 m) = cellC c x y
   rw [Int.add_zero, cell_q ha hb hc hd, out ha (by omega), out hb (by omega), out hd (by omega), show y + p2 m - p2 m = y by omega]
   omega
  | 3, _ =>
   have hr := cell_in d m x y hd h
   show cellC _ (x + p2 m) (y + p2 m) = cellC d x y
   rw [cell_q ha hb hc hd, out ha (by omega), out hb (by omega), out hc (by omega), show x + p2 m - p2 m = x by omega, show y + p2 m - p2 m = y by omega]
   omega
def cellM (t : Tr) (x y : Int) : Int := cellC t (x + p2 (t.lv.toNat - 1)) (y + p2 (t.lv.toNat - 1))
theorem rim_cell {m : Nat} {t : Tr} (hw : wfT ((m : Int) + 1) t) {i : Nat} (hi : i < 4) (h : ∀ j, j < 4 → j ≠ i → t.q j = .e) (x y : Int) : cellC t x y = cellC (t.q i) (x - offX m i) (y - offY m i) := by
 cases t with
 | e => rfl
 | s k =>
  have := hw.1
  omega
 | n v a b c d =>
  have hw' : wfT (((m + 1 : Nat)) : Int) (.n v a b c d) := hw
  obtain ⟨m', hm, rfl, ha, hb, hc, hd, _⟩ := wf_n hw'
  have : m = m' := by omega
  subst this
  rw [cell_q ha hb hc hd]
  match i, hi with
  | 0, _ =>
   have h1 : b = .e := h 1 (by omega) (by omega)
   have h2 : c = .e := h 2 (by omega) (by omega)
   have h3 : d = .e := h 3 (by omega) (by omega)
   subst h1 h2 h3
   show _ = cellC a (x - 0) (y - 0)
   rw [Int.sub_zero, Int.sub_zero, cellC_e, cellC_e, cellC_e]
   omega
  | 1, _ =>
   have h1 : a = .e := h 0 (by omega) (by omega)
   have h2 : c = .e := h 2 (by omega) (by omega)
   have h3 : d = .e := h 3 (by omega) (by omega)
   subst h1 h2 h3
   show _ = cellC b (x - p2 m) (y - 0)
   rw [Int.sub_zero, cellC_e, cellC_e, cellC_e]
   omega
  | 2, _ =>
   have h1 : a = .e := h 0 (by omega) (by omega)
   have h2 : b = .e := h 1 (by omega) (by omega)
   have h3 : d = .e := h 3 (by omega) (by omega)
   subst h1 h2 h3
   show _ = cellC c (x - 0) (y - p2 m)
   rw [Int.sub_zero, cellC_e, cellC_e, cellC_e]
   omega
  | 3, _ =>
   have h1 : a = .e := h 0 (by omega) (by omega)
   have h2 : b = .e := h 1 (by omega) (by omega)
   have h3 : c = .e := h 2 (by omega) (by omega)
   subst h1 h2 h3
   show _ = cellC d (x - p2 m) (y - p2 m)
   rw [cellC_e, cellC_e, cellC_e]
   omega
theorem hol_cells {n : Nat} {t : Tr} (hw : wfT (n : Int) t) (hh : holT t = true) (x y : Int) : cellM (innT t) x y = cellM t x y := by
 obtain ⟨h1, h2⟩ := hol_iff.1 hh
 cases t with
 | e => exact absurd h1 (by simp [Tr.lv])
 | s k => exact absurd h1 (by simp [Tr.lv])
 | n v a b c d =>
  have hv1 : 1 < v := h1
  obtain ⟨m, rfl, rfl, ha, hb, hc, hd, _⟩ := wf_n hw
  obtain ⟨k, rfl⟩ : ∃ k, m = k + 1 := ⟨m - 1, by omega⟩
  have ec : (((k + 1 : Nat)) : Int) = (k : Int) + 1 := by omega
  rw [ec] at ha hb hc hd
  have h0 : ∀ {i : Nat}, i < 4 → ∀ j, j < 4 → j ≠ 3 - i → ((Tr.n (((k + 1 : Nat) : Int) + 1) a b c d).q i).q j = .e := fun hi j hj hne => h2 _ hi j hj (by omega)
  have wq : ∀ {t : Tr} (i : Nat), wfT ((k : Int) + 1) t → wfT (k : Int) (t.q i) := fun i hw => by
   have := wf_q hw i
   rwa [show (k : Int) + 1 - 1 = k by omega] at this
  have hne := inn_ne hw hh
  have e1 : (innT (.n (((k + 1 : Nat) : Int) + 1) a b c d)).lv.toNat - 1 = k := by
   rcases inn_lv (.n (((k + 1 : Nat) : Int) + 1) a b c d) with e | e
   ·
    exact absurd e hne
   ·
    rw [e]
    show (((k + 1 : Nat) : Int) + 1 - 1).toNat - 1 = k
    omega
  have e2 : (Tr.n (((k + 1 : Nat) : Int) + 1) a b c d).lv.toNat - 1 = k + 1 := by
   show (((k + 1 : Nat) : Int) + 1).toNat - 1 = k + 1
   omega
  unfold cellM
  rw [e1, e2]
  have ei : innT (.n (((k + 1 : Nat) : Int) + 1) a b c d) = mk ((k : Int) + 1) (a.q 3) (b.q 2) (c.q 1) (d.q 0) := by
   unfold innT
   show mk (((k + 1 : Nat) : Int) + 1 - 1) _ _ _ _ = _
   rw [show ((k + 1 : Nat) : Int) + 1 - 1 = (k : Int) + 1 by omega]
   rfl
  rw [ei, cell_mk (wq 3 ha) (wq 2 hb) (wq 1 hc) (wq 0 hd)]
  have wk : ∀ {t : Tr}, wfT ((k : Int) + 1) t → wfT (((k + 1 : Nat)) : Int) t := fun h => by rw [ec]; exact h
  rw [show (((k + 1 : Nat) : Int) + 1) = (((k + 1 : Nat)) : Int) + 1 from rfl, cell_q (wk ha) (wk hb) (wk hc) (wk hd)]
  rw [rim_cell ha (i := 3) (by omega) (fun j hj hne => h0 (i := 0) (by omega) j hj hne), rim_cell hb (i := 2) (by omega) (fun j hj hne => h0 (i := 1) (by omega) j hj hne), rim_cell hc (i := 1) (by omega) (fun j hj hne => h0 (i := 2) (by omega) j hj hne), rim_cell hd (i := 0) (by omega) (fun j hj hne => h0 (i := 3) (by omega) j hj hne)]
  have ep := p2_succ k
  show _ = cellC (a.q 3) (x + p2 (k + 1) - p2 k) (y + p2 (k + 1) - p2 k) + cellC (b.q 2) (x + p2 (k + 1) - p2 (k + 1) - 0) (y + p2 (k + 1) - p2 k) + cellC (c.q 1) (x + p2 (k + 1) - p2 k) (y + p2 (k + 1) - p2 (k + 1) - 0) + cellC (d.q 0) (x + p2 (k + 1) - p2 (k + 1) - 0) (y + p2 (k + 1) - p2 (k + 1) - 0)
  rw [show x + p2 (k + 1) - p2 k = x + p2 k by omega, show y + p2 (k + 1) - p2 k = y + p2 k by omega, show x + p2 (k + 1) - p2 (k + 1) - 0 = x + p2 k - p2 k by omega, show y + p2 (k + 1) - p2 (k + 1) - 0 = y + p2 k - p2 k by omega]
theorem shr_cells {n : Nat} {t : Tr} (hw : wfT (n : Int) t) (x y : Int) : cellM (shrT t) x y = cellM t x y := by
 suffices h : ∀ (m n : Nat) (t : Tr), t.lv.toNat ≤ m → wfT (n : Int) t → cellM (shrT t) x y = cellM t x y from h _ n t (Nat.le_refl _) hw
 intro m
 induction m with
 | zero =>
  intro n t hm hw
  have : holT t = false := by
   cases hq : holT t
   ·
    rfl
   ·
    have := (hol_iff.1 hq).1
    omega
  rw [shr_done this]
 | succ m ih =>
  intro n t hm hw
  cases hq : holT t with
  | false => rw [shr_done hq]
  | true =>
   have h1 := (hol_iff.1 hq).1
   have hw2 := wf_inn hw hq
   have hn : 1 ≤ n := by
    obtain ⟨_, h2, _⟩ := wf_lv hw (by omega)
    omega
   rw [show ((n : Int) - 1) = ((n - 1 : Nat) : Int) by omega] at hw2
   rw [shr_step hq, ih (n - 1) _ ?_ hw2, hol_cells hw hq]
   rcases inn_lv t with e | e
   ·
    rw [e]
    exact Nat.zero_le _
   ·
    rw [e]
    omega
theorem wide_hol {m k : Nat} {t u : Tr} (ht : wfT (((m + 1 : Nat)) : Int) t) (hu : wfT (((k + 1 + 1 : Nat)) : Int) u) (hmk : m ≤ k) (hne : u ≠ .e) (h : ∀ x y, cellM t x y = cellM u x y) (htl : t.lv.toNat - 1 = m ∨ t = .e) : holT u = true := by
 have hul : u.lv = ((k + 1 + 1 : Nat) : Int) := by
  cases u with
  | e => exact absurd rfl hne
  | s q =>
   have := hu.1
   omega
  | n v a b c d => exact hu.1.symm
 rw [hol_iff, hul]
 refine ⟨by omega, fun i hi j hj hji => Classical.byContradiction fun hq => ?_⟩
 have hu1 : wfT (((k + 1 : Nat) : Int) + 1) u := hu
 have hw1 : wfT ((k : Int) + 1) (u.q i) := by
  have := wf_q hu i
  rwa [show (((k + 1 + 1 : Nat)) : Int) - 1 = (k : Int) + 1 by omega] at this
 have hw2 : wfT (k : Int) ((u.q i).q j) := by
  have := wf_q hw1 j
  rwa [show (k : Int) + 1 - 1 = k by omega] at this
 obtain ⟨x, y, hxy⟩ := cell_some _ k hw2 hq
 have hr := cell_in _ k x y hw2 hxy
 have s1 := cell_sub hw1 hj hxy
 have s2 := cell_sub hu1 hi (x := x + offX k j) (y := y + offY k j) (by rw [s1]; exact hxy)
 rw [s1] at s2
 have hp := p2_pos k
 have ep := p2_succ k
 have ht2 := h (x + offX k j + offX (k + 1) i - p2 (k + 1)) (y + offY k j + offY (k + 1) i - p2 (k + 1))
 unfold cellM at ht2
 rw [hul, show (((k + 1 + 1 : Nat)) : Int).toNat - 1 = k + 1 by omega, show x + offX k j + offX (k + 1) i - p2 (k + 1) + p2 (k + 1) = x + offX k j + offX (k + 1) i by omega, show y + offY k j + offY (k + 1) i - p2 (k + 1) + p2 (k + 1) = y + offY k j + offY (k + 1) i by omega, s2] at ht2
 rcases htl with htl | htl
 ·
  rw [htl] at ht2
  have hin := cell_in t (m + 1) _ _ ht (by rw [ht2]; exact hxy)
  have e1 := p2_succ m
  have e2 := p2_mono hmk
  match i, j, hi, hj with
  | 0, 0, _, _ => simp only [offX, offY] at hin; omega
  | 0, 1, _, _ => simp only [offX, offY] at hin; omega
  | 0, 2, _, _ => simp only [offX, offY] at hin; omega
  | 0, 3, _, _ => exact hji rfl
  | 1, 0, _, _ => simp only [offX, offY] at hin; omega
  | 1, 1, _, _ => simp only [offX, offY] at hin; omega
  | 1, 2, _, _ => exact hji rfl
  | 1, 3, _, _ => simp only [offX, offY] at hin; omega
  | 2, 0, _, _ => simp only [offX, offY] at hin; omega
  | 2, 1, _, _ => exact hji rfl
  | 2, 2, _, _ => simp only [offX, offY] at hin; omega
  | 2, 3, _, _ => simp only [offX, offY] at hin; omega
  | 3, 0, _, _ => exact hji rfl
  | 3, 1, _, _ => simp only [offX, offY] at hin; omega
  | 3, 2, _, _ => simp only [offX, offY] at hin; omega
  | 3, 3, _, _ => simp only [offX, offY] at hin; omega
 ·
  rw [htl] at ht2
  exact hxy ht2.symm
theorem cells_one {n k : Nat} {t u : Tr} (ht : wfT (n : Int) t) (hu : wfT (k : Int) u) (hts : ∀ q, t ≠ .s q) (hus : ∀ q, u ≠ .s q) (hht : holT t = false) (hhu : holT u = false) (h : ∀ x y, cellM t x y = cellM u x y) : t = u := by
 have key : ∀ {t u : Tr} {n k : Nat}, wfT (n : Int) t → wfT (k : Int) u → (∀ q, t ≠ .s q) → (∀ q, u ≠ .s q) → holT u = false → (∀ x y, cellM t x y = cellM u x y) → n ≤ k → t = u := by
  intro t u n k ht hu hts hus hhu h hnk
  cases t with
  | s q => exact absurd rfl (hts q)
  | e =>
   refine Classical.byContradiction fun hne => ?_
   obtain ⟨x, y, h2⟩ := cell_some u k hu (fun e => hne e.symm)
   have h3 := h (x - p2 (u.lv.toNat - 1)) (y - p2 (u.lv.toNat - 1))
   unfold cellM at h3
   rw [show x - p2 (u.lv.toNat - 1) + p2 (u.lv.toNat - 1) = x by omega, show y - p2 (u.lv.toNat - 1) + p2 (u.lv.toNat - 1) = y by omega] at h3
   exact h2 h3.symm
  | n v a b c d =>
   obtain ⟨m, rfl, rfl, ha, hb, hc, hd, hm9⟩ := wf_n ht
   have hlv : (Tr.n ((m : Int) + 1) a b c d).lv.toNat - 1 = m := by
    show ((m : Int) + 1).toNat - 1 = m
    omega
   by_cases hue : u = .e
   ·
    subst hue
    obtain ⟨x, y, h2⟩ := cell_some _ (m + 1) ht (by simp)
    have h3 := h (x - p2 m) (y - p2 m)
    unfold cellM at h3
    rw [hlv, show x - p2 m + p2 m = x by omega, show y - p2 m + p2 m = y by omega] at h3
    exact absurd h3 h2
   ·
    rcases Nat.lt_or_ge (m + 1) k with h1 | h1
    ·
     obtain ⟨q, rfl⟩ : ∃ q, k = q + 1 + 1 := ⟨k - 2, by omega⟩
     rw [wide_hol ht hu (by omega) hue h (.inl hlv)] at hhu
     cases hhu
    ·
     have : k = m + 1 := by omega
     subst this
     refine cell_uniq _ u (m + 1) ht hu fun x y => ?_
     have hul : u.lv.toNat - 1 = m := by
      cases u with
      | e => exact absurd rfl hue
      | s q => exact absurd rfl (hus q)
      | n v2 a2 b2 c2 d2 =>
       have e : ((m + 1 : Nat) : Int) = v2 := hu.1
       show v2.toNat - 1 = m
       omega
     have h3 := h (x - p2 m) (y - p2 m)
     unfold cellM at h3
     rw [hlv, hul, show x - p2 m + p2 m = x by omega, show y - p2 m + p2 m = y by omega] at h3
     exact h3
 rcases Nat.le_total n k with h1 | h1
 ·
  exact key ht hu hts hus hhu h h1
 ·
  exact (key hu ht hus hts hht (fun x y => (h x y).symm) h1).symm
end Go.Proofs.YtmfncapgikobkaaGreat.Nds

namespace Go.Proofs.YtmfncapgikobkaaGreat
set_option maxRecDepth 100000
set_option linter.unusedVariables false
set_option linter.unusedSimpArgs false
open Nds
structure Cl where
 x : Int
 y : Int
 s : Int
def lk : List Cl → Int → Int → Int
 | [], _, _ => 0
 | c :: l, x, y => if c.x = x ∧ c.y = y then c.s else lk l x y
def sqB (X Y h : Int) (c : Cl) : Bool := decide (X ≤ c.x ∧ c.x < X + h ∧ Y ≤ c.y ∧ c.y < Y + h)
theorem sq_iff {X Y h : Int} {c : Cl} : sqB X Y h c = true ↔ X ≤ c.x ∧ c.x < X + h ∧ Y ≤ c.y ∧ c.y < Y + h := by
 unfold sqB
 rw [decide_eq_true_iff]
def Fine (l : List Cl) : Prop := (∀ c ∈ l, 1 ≤ c.s ∧ c.s ≤ 255) ∧ l.Pairwise (fun a b => ¬ (a.x = b.x ∧ a.y = b.y))
theorem Fine.filter {l : List Cl} (h : Fine l) (p : Cl → Bool) : Fine (l.filter p) :=
 ⟨fun c hc => h.1 c (List.mem_filter.1 hc).1, h.2.sublist List.filter_sublist⟩
def offI (h : Int) (i : Nat) : Int := match i with | 1 => h | 3 => h | _ => 0
def offJ (h : Int) (i : Nat) : Int := match i with | 2 => h | 3 => h | _ => 0
end Go.Proofs.YtmfncapgikobkaaGreat

namespace Go.Proofs.YtmfncapgikobkaaGreat
set_option maxRecDepth 100000
set_option linter.unusedVariables false
set_option linter.unusedSimpArgs false
open Nds
theorem Cl.ext' {a b : Cl} (h1 : a.x = b.x) (h2 : a.y = b.y) (h3 : a.s = b.s) : a = b := by
 cases a; cases b; simp_all
def ltC (a b : Cl) : Prop := a.y < b.y ∨ (a.y = b.y ∧ a.x < b.x)
def ltB (a b : Cl) : Bool := decide (a.y < b.y ∨ (a.y = b.y ∧ a.x < b.x))
theorem ltB_iff {a b : Cl} : ltB a b = true ↔ ltC a b := by
 unfold ltB
 rw [decide_eq_true_iff]
 rfl
theorem ltC_trans {a b c : Cl} (h : ltC a b) (k : ltC b c) : ltC a c := by
 unfold ltC at h k ⊢
 omega
theorem ltC_ne {a b : Cl} (h : ltC a b) : ¬ (a.x = b.x ∧ a.y = b.y) := by
 unfold ltC at h
 omega
theorem ltC_tri (a b : Cl) : ltC a b ∨ (a.x = b.x ∧ a.y = b.y) ∨ ltC b a := by
 unfold ltC
 omega
def Srt (l : List Cl) : Prop := l.Pairwise ltC
theorem srt_cons {a : Cl} {l : List Cl} (h : Srt (a :: l)) : (∀ b ∈ l, ltC a b) ∧ Srt l := ⟨fun b hb => List.rel_of_pairwise_cons h hb, (List.pairwise_cons.1 h).2⟩
theorem lk_none : ∀ {l : List Cl} {x y : Int}, (∀ c ∈ l, ¬ (c.x = x ∧ c.y = y)) → lk l x y = 0
 | [], _, _, _ => rfl
 | c :: l, x, y, h => by
  unfold lk
  rw [if_neg (h c (by simp)), lk_none fun d hd => h d (by simp [hd])]
theorem lk_mem : ∀ {l : List Cl} {c : Cl}, Srt l → c ∈ l → lk l c.x c.y = c.s
 | a :: l, c, hs, hc => by
  obtain ⟨h1, h2⟩ := srt_cons hs
  unfold lk
  rcases List.mem_cons.1 hc with rfl | hc
  ·
   rw [if_pos ⟨rfl, rfl⟩]
  ·
   rw [if_neg (ltC_ne (h1 c hc)), lk_mem h2 hc]
theorem srt_uniq : ∀ {l m : List Cl}, Srt l → Srt m → (∀ c ∈ l, c.s ≠ 0) → (∀ c ∈ m, c.s ≠ 0) → (∀ x y, lk l x y = lk m x y) → l = m
 | [], [], _, _, _, _, _ => rfl
 | [], b :: m, _, hm, _, h0, h => by
  have h1 := lk_mem hm (c := b) (by simp)
  rw [← h] at h1
  exact absurd h1.symm (h0 b (by simp))
 | a :: l, [], hl, _, h0, _, h => by
  have h1 := lk_mem hl (c := a) (by simp)
  rw [h] at h1
  exact absurd h1.symm (h0 a (by simp))
 | a :: l, b :: m, hl, hm, h0, h1, h => by
  obtain ⟨l1, l2⟩ := srt_cons hl
  obtain ⟨m1, m2⟩ := srt_cons hm
  have ha := lk_mem hl (c := a) (by simp)
  have hb := lk_mem hm (c := b) (by simp)
  have hxy : a.x = b.x ∧ a.y = b.y := by
   rcases ltC_tri a b with h2 | h2 | h2
   ·
    rw [h, lk_none (l := b :: m) (fun c hc e => by
     rcases List.mem_cons.1 hc with rfl | hc
     ·
      exact ltC_ne h2 ⟨e.1.symm, e.2.symm⟩
     ·
      exact ltC_ne (ltC_trans h2 (m1 c hc)) ⟨e.1.symm, e.2.symm⟩)] at ha
    exact absurd ha.symm (h0 a (by simp))
   ·
    exact h2
   ·
    rw [← h, lk_none (l := a :: l) (fun c hc e => by
     rcases List.mem_cons.1 hc with rfl | hc
     ·
      exact ltC_ne h2 ⟨e.1.symm, e.2.symm⟩
     ·
      exact ltC_ne (ltC_trans h2 (l1 c hc)) ⟨e.1.symm, e.2.symm⟩)] at hb
    exact absurd hb.symm (h1 b (by simp))
  have hs : a.s = b.s := by
   rw [h, hxy.1, hxy.2] at ha
   exact ha.symm.trans hb
  have e : a = b := Cl.ext' hxy.1 hxy.2 hs
  subst e
  rw [srt_uniq l2 m2 (fun c hc => h0 c (by simp [hc])) (fun c hc => h1 c (by simp [hc])) fun x y => ?_]
  have h2 := h x y
  by_cases hc : a.x = x ∧ a.y = y
  ·
   rw [lk_none (l := l) (fun c hc2 e => ltC_ne (l1 c hc2) ⟨hc.1.trans e.1.symm, hc.2.trans e.2.symm⟩), lk_none (l := m) (fun c hc2 e => ltC_ne (m1 c hc2) ⟨hc.1.trans e.1.symm, hc.2.trans e.2.symm⟩)]
  ·
   unfold lk at h2
   rwa [if_neg hc, if_neg hc] at h2
theorem srt_fine {l : List Cl} (h : Srt l) (hs : ∀ c ∈ l, 1 ≤ c.s ∧ c.s ≤ 255) : Fine l := ⟨hs, h.imp fun h => ltC_ne h⟩
def insC : List Cl → Cl → List Cl
 | [], c => [c]
 | a :: l, c => if ltB a c = true then a :: insC l c else if a.x = c.x ∧ a.y = c.y then c :: l else c :: a :: l
theorem ins_mem : ∀ {l : List Cl} {c d : Cl}, d ∈ insC l c → d = c ∨ d ∈ l
 | [], c, d, h => by
  unfold insC at h
  exact .inl (List.mem_singleton.1 h)
 | a :: l, c, d, h => by
  unfold insC at h
  split at h
  ·
   rcases List.mem_cons.1 h with h | h
   ·
    exact .inr (by simp [h])
   ·
    rcases ins_mem h with h | h
    ·
     exact .inl h
    ·
     exact .inr (by simp [h])
  ·
   split at h
   ·
    rcases List.mem_cons.1 h with h | h
    ·
     exact .inl h
    ·
     exact .inr (by simp [h])
   ·
    rcases List.mem_cons.1 h with h | h
    ·
     exact .inl h
    ·
     exact .inr h
theorem ins_srt : ∀ {l : List Cl} (c : Cl), Srt l → Srt (insC l c)
 | [], c, _ => List.pairwise_singleton _ _
 | a :: l, c, h => by
  obtain ⟨h1, h2⟩ := srt_cons h
  unfold insC
  split
  ·
   rename_i hlt
   refine List.pairwise_cons.2 ⟨fun b hb => ?_, ins_srt c h2⟩
   rcases ins_mem hb with rfl | hb
   ·
    exact ltB_iff.1 hlt
   ·
    exact h1 b hb
  ·
   rename_i hlt
   split
   ·
    rename_i hxy
    refine List.pairwise_cons.2 ⟨fun b hb => ?_, h2⟩
    have h3 := h1 b hb
    unfold ltC at h3 ⊢
    omega
   ·
    rename_i hxy
    have hca : ltC c a := by
     rcases ltC_tri a c with h3 | h3 | h3
     ·
      exact absurd (ltB_iff.2 h3) hlt
     ·
      exact absurd h3 hxy
     ·
      exact h3
    refine List.pairwise_cons.2 ⟨fun b hb => ?_, h⟩
    rcases List.mem_cons.1 hb with rfl | hb
    ·
     exact hca
    ·
     exact ltC_trans hca (h1 b hb)
theorem ins_lk : ∀ {l : List Cl} (c : Cl), Srt l → ∀ x y, lk (insC l c) x y = if c.x = x ∧ c.y = y then c.s else lk l x y
 | [], c, _, x, y => rfl
 | a :: l, c, h, x, y => by
  obtain ⟨h1, h2⟩ := srt_cons h
  unfold insC
  split
  ·
   rename_i hlt
   have h3 := ltB_iff.1 hlt
   unfold lk
   rw [ins_lk c h2 x y]
   by_cases ha : a.x = x ∧ a.y = y
   ·
    rw [if_pos ha, if_neg (fun e => ltC_ne h3 ⟨ha.1.trans e.1.symm, ha.2.trans e.2.symm⟩), if_pos ha]
   ·
    rw [if_neg ha, if_neg ha]
  ·
   split
   ·
    rename_i hxy
    unfold lk
    by_cases hc : c.x = x ∧ c.y = y
    ·
     rw [if_pos hc, if_pos hc]
    ·
     rw [if_neg hc, if_neg hc, if_neg (fun e => hc ⟨hxy.1.symm.trans e.1, hxy.2.symm.trans e.2⟩)]
   ·
    rfl
def insAll (l : List Cl) : List Cl := l.foldl insC []
def lastS (l : List Cl) (x y : Int) : Int := l.foldl (fun s c => if c.x = x ∧ c.y = y then c.s else s) 0
theorem insAll_snoc (l : List Cl) (c : Cl) : insAll (l ++ [c]) = insC (insAll l) c := by
 unfold insAll
 rw [List.foldl_append]
 rfl
theorem lastS_snoc (l : List Cl) (c : Cl) (x y : Int) : lastS (l ++ [c]) x y = if c.x = x ∧ c.y = y then c.s else lastS l x y := by
 unfold lastS
 rw [List.foldl_append]
 rfl
theorem insAll_spec (l : List Cl) : Srt (insAll l) ∧ (∀ x y, lk (insAll l) x y = lastS l x y) ∧ ∀ c ∈ insAll l, c ∈ l := by
 suffices h : ∀ k, k ≤ l.length → Srt (insAll (l.take k)) ∧ (∀ x y, lk (insAll (l.take k)) x y = lastS (l.take k) x y) ∧ ∀ c ∈ insAll (l.take k), c ∈ l by
  have := h l.length (Nat.le_refl _)
  rwa [List.take_of_length_le (Nat.le_refl _)] at this
 intro k
 induction k with
 | zero => exact fun _ => ⟨List.Pairwise.nil, fun x y => rfl, fun c hc => by cases hc⟩
 | succ k ih =>
  intro hk
  obtain ⟨i1, i2, i3⟩ := ih (by omega)
  rw [List.take_succ_eq_append_getElem (by omega), insAll_snoc]
  refine ⟨ins_srt _ i1, fun x y => ?_, fun c hc => ?_⟩
  ·
   rw [ins_lk _ i1, lastS_snoc, i2]
  ·
   rcases ins_mem hc with rfl | hc
   ·
    exact List.getElem_mem _
   ·
    exact i3 c hc
def lastF (l : List Cl) : List Cl := (insAll l).filter fun c => c.s != 0
theorem lk_nz : ∀ {l : List Cl}, Srt l → ∀ x y, lk (l.filter fun c => c.s != 0) x y = lk l x y
 | [], _, _, _ => rfl
 | c :: l, h, x, y => by
  obtain ⟨h1, h2⟩ := srt_cons h
  rw [List.filter_cons]
  by_cases hc : (c.s != 0) = true
  ·
   rw [if_pos hc]
   unfold lk
   rw [lk_nz h2]
  ·
   rw [if_neg hc, lk_nz h2]
   have h0 : c.s = 0 := by simpa using hc
   conv => rhs; unfold lk
   by_cases hxy : c.x = x ∧ c.y = y
   ·
    rw [if_pos hxy, h0]
    exact lk_none fun d hd e => ltC_ne (h1 d hd) ⟨hxy.1.trans e.1.symm, hxy.2.trans e.2.symm⟩
   ·
    rw [if_neg hxy]
theorem lastF_spec (l : List Cl) : Srt (lastF l) ∧ (∀ x y, lk (lastF l) x y = lastS l x y) ∧ (∀ c ∈ lastF l, c.s ≠ 0 ∧ c ∈ l) := by
 obtain ⟨h1, h2, h3⟩ := insAll_spec l
 refine ⟨h1.sublist List.filter_sublist, fun x y => ?_, fun c hc => ?_⟩
 ·
  unfold lastF
  rw [lk_nz h1, h2]
 ·
  obtain ⟨h4, h5⟩ := List.mem_filter.1 hc
  exact ⟨by simpa using h5, h3 c h4⟩
end Go.Proofs.YtmfncapgikobkaaGreat

namespace Go.Proofs.YtmfncapgikobkaaGreat
set_option maxRecDepth 100000
set_option linter.unusedVariables false
set_option linter.unusedSimpArgs false
open Go.RowKit Nds
structure Cv where
 sx : Bool
 ax : Option Addr
 cx : Nat
 xs : List Nat
 sy : Bool
 ay : Option Addr
 cy : Nat
 ys : List Nat
 st : Nat
def cv0 : Cv := ⟨false, none, 0, [], false, none, 0, [], 0⟩
def Cv.cl (v : Cv) : Cl := ⟨ival v.sx v.xs, ival v.sy v.ys, v.st⟩
abbrev cvv (v : Cv) : Value := .agg #[.bool v.sx, .slice v.ax v.xs.length v.cx, .bool v.sy, .slice v.ay v.ys.length v.cy, .int .u8 v.st]
def CvAt (w : World) (b o : Nat) (v : Cv) : Prop :=
 w.cell? ⟨b, o, none⟩ = some (.bool v.sx) ∧ w.cell? ⟨b, o + 1, none⟩ = some (.slice v.ax v.xs.length v.cx) ∧ w.cell? ⟨b, o + 2, none⟩ = some (.bool v.sy) ∧ w.cell? ⟨b, o + 3, none⟩ = some (.slice v.ay v.ys.length v.cy) ∧ w.cell? ⟨b, o + 4, none⟩ = some (.int .u8 v.st)
def CvU (w : World) (v : Cv) : Prop := Us w v.ax v.cx v.xs ∧ Us w v.ay v.cy v.ys ∧ v.st ≤ 255
def cat (l : List Cv) (i : Nat) : Cv := l[i]?.getD cv0
def Cs (w : World) (A : Option Addr) (c : Nat) (l : List Cv) : Prop :=
 (∀ v ∈ l, CvU w v) ∧ l.length ≤ c ∧ c ≤ maxLen ∧ (0 < l.length → ∃ b off, A = some ⟨b, off, none⟩ ∧ b < w.heap.size ∧ ∀ i, i < l.length → CvAt w b (off + i * 5) (cat l i))
theorem cat_mem {l : List Cv} {i : Nat} (h : i < l.length) : cat l i ∈ l := by
 unfold cat
 rw [List.getElem?_eq_getElem h]
 exact List.getElem_mem h
theorem CvAt.below {w w' : World} {b o : Nat} {v : Cv} (h : CvAt w b o v) (hb : w'.heap[b]? = w.heap[b]?) : CvAt w' b o v := by
 obtain ⟨h1, h2, h3, h4, h5⟩ := h
 exact ⟨(World.cell?_of_block (w := w) hb).trans h1, (World.cell?_of_block (w := w) hb).trans h2, (World.cell?_of_block (w := w) hb).trans h3, (World.cell?_of_block (w := w) hb).trans h4, (World.cell?_of_block (w := w) hb).trans h5⟩
theorem CvU.below {w w' : World} {v : Cv} (h : CvU w v) (hb : Below w.heap.size w w') : CvU w' v := ⟨h.1.below hb, h.2.1.below hb, h.2.2⟩
theorem Cs.below {w w' : World} {A : Option Addr} {c : Nat} {l : List Cv} (h : Cs w A c l) (hb : Below w.heap.size w w') : Cs w' A c l :=
 ⟨fun v hv => (h.1 v hv).below hb, h.2.1, h.2.2.1, fun hn => by
  obtain ⟨b, off, e, hlt, hc⟩ := h.2.2.2 hn
  exact ⟨b, off, e, Nat.lt_of_lt_of_le hlt hb.size, fun i hi => (hc i hi).below (hb.block b hlt)⟩⟩
theorem Cs.cap {w : World} {A : Option Addr} {c : Nat} {l : List Cv} (h : Cs w A c l) : l.length ≤ c ∧ c ≤ 9223372036854775807 := by
 have h1 := h.2.1
 have h2 := h.2.2.1
 simp only [maxLen] at h2
 exact ⟨h1, by omega⟩
theorem Cs.at_ {w : World} {A : Option Addr} {c : Nat} {l : List Cv} (h : Cs w A c l) (hn : 0 < l.length) :
  ∃ b off, A = some ⟨b, off, none⟩ ∧ b < w.heap.size ∧ ∀ i, i < l.length → CvAt w b (off + i * 5) (cat l i) := h.2.2.2 hn
theorem CvAt.new (w : World) (v : Cv) (t : TypeId) : CvAt (w.alloc (.cells #[.bool v.sx, .slice v.ax v.xs.length v.cx, .bool v.sy, .slice v.ay v.ys.length v.cy, .int .u8 v.st] t)) w.heap.size 0 v := by
 have h := heap_alloc_new w (.cells #[.bool v.sx, .slice v.ax v.xs.length v.cx, .bool v.sy, .slice v.ay v.ys.length v.cy, .int .u8 v.st] t)
 refine ⟨?_, ?_, ?_, ?_, ?_⟩ <;> (rw [cell_of_row _ _ _ _ _ _ h]; rfl)
def ordC (v u : Cv) : Int := if ordI (ival v.sy v.ys) (ival u.sy u.ys) = 0 then ordI (ival v.sx v.xs) (ival u.sx u.xs) else ordI (ival v.sy v.ys) (ival u.sy u.ys)
set_option maxRecDepth 100000 in
set_option maxHeartbeats 3200000 in
theorem order_any (v u : Cv) (w : World) (h : CvU w v) (k : CvU w u) (h1 : v.xs.length ≤ 60000) (h2 : v.ys.length ≤ 60000) (k1 : u.xs.length ≤ 60000) (k2 : u.ys.length ≤ 60000) :
  Calls Tryz.prog 51 #[cvv v, cvv u] w fun e w' => e = .returned (.int .i64 (ordC v u)) ∧ Below w.heap.size w w' := by
 have hv1 := h.1.cap
 have hv2 := h.2.1.cap
 have hu1 := k.1.cap
 have hu2 := k.2.1.cap
 obtain ⟨W, hW⟩ : ∃ W : World, W = (w.alloc (.cells #[.bool v.sx, .slice v.ax v.xs.length v.cx, .bool v.sy, .slice v.ay v.ys.length v.cy, .int .u8 v.st] 47)).alloc (.cells #[.bool u.sx, .slice u.ax u.xs.length u.cx, .bool u.sy, .slice u.ay u.ys.length u.cy, .int .u8 u.st] 47) := ⟨_, rfl⟩
 have hb : Below w.heap.size w W := by rw [hW]; exact ((Below.refl _ w).alloc (Nat.le_refl _) _).alloc (by simp) _
 have HB := Lib.hid hb
 have HV := Lib.hid (h.below hb)
 have HU := Lib.hid (k.below hb)
 have hbx : CvAt W w.heap.size 0 v := by
  rw [hW]
  exact (CvAt.new w v _).below (Below.heap_alloc _ _ _ (by simp))
 have hby : CvAt W (w.heap.size + 1) 0 u := by
  rw [hW]
  have h1 := CvAt.new (w.alloc (.cells #[.bool v.sx, .slice v.ax v.xs.length v.cx, .bool v.sy, .slice v.ay v.ys.length v.cy, .int .u8 v.st] 47)) u 47
  rwa [show (w.alloc (.cells #[.bool v.sx, .slice v.ax v.xs.length v.cx, .bool v.sy, .slice v.ay v.ys.length v.cy, .int .u8 v.st] 47)).heap.size = w.heap.size + 1 by simp] at h1
 have HBX := Lib.hid hbx
 have HBY := Lib.hid hby
 have HLT := Lib.hid (show w.heap.size + 1 < W.heap.size by rw [hW]; simp)
 have q0 : True := trivial
 obtain ⟨R, hR⟩ : ∃ R, R = ordC v u := ⟨_, rfl⟩
 rw [← hR]
 have HR := Lib.hid hR
 have HW := Lib.hid hW
 by_cases hy : ordI (ival v.sy v.ys) (ival u.sy u.ys) = 0
 ·
  have HY := Lib.hid hy
  clear h k hb hbx hby hW hR hy
  go_enter Tryz.func51, Tryz.ntmps51
  go_wp2_with (first
   | (have _t := q0; go_at_call 45; clear _t; go_loud (rw [← HW.out]; refine (rbcmp_any _ _ _ _ _ _ _ _ _ HV.out.2.1 HU.out.2.1 h2 k2).mono ?_; rintro e w1 ⟨rfl, b1⟩; rw [HY.out]; have HB1 := Lib.hid b1; have HV1 := Lib.hid (HV.out.below b1); have HU1 := Lib.hid (HU.out.below b1); obtain ⟨c1, c2, -, -, -⟩ := HBX.out.below (b1.block w.heap.size (by have := HLT.out; omega)); obtain ⟨d1, d2, -, -, -⟩ := HBY.out.below (b1.block (w.heap.size + 1) HLT.out); clear b1; have q1 := q0; clear q0))
   | (have _t := q1; go_at_call 45; clear _t; go_loud (refine (rbcmp_any _ _ _ _ _ _ _ _ _ HV1.out.1 HU1.out.1 h1 k1).mono ?_; rintro e w2 ⟨rfl, b2⟩; have HB2 := Lib.hid b2; clear b2; have q2 := q1; clear q1)))
  go_ret
  refine ⟨?_, HB.out.trans ((HB1.out.trans (HB2.out.mono HB1.out.size)).mono HB.out.size)⟩
  rw [HR.out]
  unfold ordC
  rw [if_pos HY.out]
  rfl
 ·
  obtain ⟨r, hr⟩ : ∃ r, r = ordI (ival v.sy v.ys) (ival u.sy u.ys) := ⟨_, rfl⟩
  rw [← hr] at hy
  have HRY := Lib.hid hr
  have HNE := Lib.hid hy
  have t1 : (r != 0) = true := by rw [bne_iff_ne]; exact hy
  clear h k hb hbx hby hW hR hy hr
  go_enter Tryz.func51, Tryz.ntmps51
  go_wp2_with (go_at_call 45; go_loud (rw [← HW.out]; refine (rbcmp_any _ _ _ _ _ _ _ _ _ HV.out.2.1 HU.out.2.1 h2 k2).mono ?_; rintro e w1 ⟨rfl, b1⟩; rw [← HRY.out]; have HB1 := Lib.hid b1; clear b1))
  go_ret
  refine ⟨?_, HB.out.trans (HB1.out.mono HB.out.size)⟩
  rw [HR.out]
  unfold ordC
  rw [← HRY.out, if_neg HNE.out]
  rfl
end Go.Proofs.YtmfncapgikobkaaGreat

namespace Go.Proofs.YtmfncapgikobkaaGreat
set_option maxRecDepth 100000
set_option linter.unusedVariables false
set_option linter.unusedSimpArgs false
open Go.RowKit Go.Shelf Num
attribute [local go_sem] Oper.semAt_some
structure Gro (w w' : World) : Prop where
 b : Below w.heap.size w w'
 d : w.drawn ≤ w'.drawn
theorem Gro.refl (w : World) : Gro w w := ⟨Below.refl _ _, Nat.le_refl _⟩
theorem Gro.trans {a b c : World} (h : Gro a b) (k : Gro b c) : Gro a c := ⟨h.b.trans (k.b.mono h.b.size), Nat.le_trans h.d k.d⟩
theorem Gro.alloc {a w : World} (h : Gro a w) (o : Obj) : Gro a (w.alloc o) := h.trans ⟨(Below.refl _ w).alloc (Nat.le_refl _) o, Nat.le_refl _⟩
theorem Gro.drewN {a w : World} (h : Gro a w) (n : Nat) : Gro a (w.drewN n) := h.trans ⟨below_drewN (Below.refl _ _) n, Nat.le_add_right _ _⟩
structure Marks {β : Type} (B : Nat) (I : β → World → Prop) : Prop where
 lay : ∀ s W (o : Obj), I s W → o.isCells = false → I s (W.alloc o)
 put : ∀ s W l (o o' : Obj), I s W → B ≤ l → W.heap[l]? = some o → o.isCells = false → I s (W.putObj l o')
theorem Marks.of_own {β : Type} {B : Nat} {I : β → World → Prop} (h : Own I) : Marks B I :=
 ⟨fun s W o hs ho => h s W _ none hs (World.grownBy_alloc W o none) (fun r e => by cases e), fun s W l o o' hs hB hl ho => h s W _ (some l) hs (grownBy_putObj' W l o') (fun r e => by cases e; exact ⟨o, hl, ho⟩)⟩
theorem Marks.and {β : Type} {B : Nat} {I I' : β → World → Prop} (h : Marks B I) (k : Marks B I') : Marks B (fun s W => I s W ∧ I' s W) :=
 ⟨fun s W o hs ho => ⟨h.lay s W o hs.1 ho, k.lay s W o hs.2 ho⟩, fun s W l o o' hs hB hl ho => ⟨h.put s W l o o' hs.1 hB hl ho, k.put s W l o o' hs.2 hB hl ho⟩⟩
theorem Gro.put {a W : World} (h : Gro a W) {l : Nat} {o : Obj} (o' : Obj) (hl : a.heap.size ≤ l) (ho : W.heap[l]? = some o) : Gro a (W.putObj l o') :=
 ⟨h.b.grown (grownBy_putObj' W l o') h.b.size (fun k e => by cases e; exact hl), h.d⟩
theorem Gro.setCell {a W : World} (h : Gro a W) {p : Addr} (hp : a.heap.size ≤ p.block) (u : Value) : Gro a (W.setCell p u) := ⟨h.b.setCell hp u, h.d⟩
theorem Marks.gro {β : Type} {B : Nat} {w : World} (hB : w.heap.size ≤ B) : Marks B (fun (_ : β) W => Gro w W) :=
 ⟨fun s W o hs _ => hs.alloc o, fun s W l o o' hs hl ho _ => hs.put o' (Nat.le_trans hB hl) ho⟩
theorem back_free (Bs n₀ cap : Nat) (A : Option Addr) (xs : List Nat) (hd : Dig xs) (hlen : xs.length ≤ 1000000) (w0 w : World) (hBs : Bs < w.heap.size) (hn₀ : n₀ ≤ w.heap.size)
  (hc : w.cell? ⟨Bs, 0, none⟩ = some (.slice A xs.length cap)) (hU : Us w0 A cap xs) (h00 : w0.heap.size = n₀) (hb0 : Below n₀ w0 w)
  (l : Nat) (J Jx : List (Item xs.length) → World → Prop) (W : World) (hW : Below w.heap.size w W)
  (hY : ∀ pre x W, J pre W → pre.length < xs.length → YieldAt Fence.wide 2 Tryz.prog l (itemE x) W fun e W' =>
   (e = .returned (.bool true) ∧ J (pre ++ [x]) W' ∧ BackK n₀ Bs W W') ∨ (e = .returned (.bool false) ∧ Jx (pre ++ [x]) W')) (h0 : J [] W) :
  CallsIn Fence.wide 3 Tryz.prog 135 #[.func (.yield l) #[] #[], .pointer (some ⟨Bs, 0, none⟩)] W fun e W' => (∃ v, e = .returned v) ∧
   ((∃ ys, ys = its xs hd xs.length ∧ J ys W') ∨ (∃ pre, (∃ k, k ≤ xs.length ∧ pre = its xs hd k) ∧ Jx pre W')) := by
 have hc' := (hW.cell (p := ⟨Bs, 0, none⟩) hBs).trans hc
 rcases Nat.eq_zero_or_pos xs.length with hz | hz
 ·
  rw [hz] at hc'
  refine (back1_nil_in Fence.wide 3 trivial rfl l Bs cap A W hc' (fun W' => J [] W') h0).mono fun e W' ⟨he, hj⟩ => ⟨he, .inl ⟨_, rfl, ?_⟩⟩
  rw [hz]
  exact hj
 ·
  obtain ⟨b, off, rfl, hb, hcs⟩ := hU.at_ hz
  rw [h00] at hb
  exact back1_in Fence.wide 3 trivial rfl (by decide) l Bs n₀ b off cap xs hd hlen hb J Jx hY W hc' (fun j hj => ((hb0.trans (hW.mono hn₀)).cell (p := ⟨b, off + j, none⟩) hb).trans (hcs j hj)) h0
def RoundEnd (n₀ Bs : Nat) {β : Type} (I Ix : List β → World → Prop) (xs : List β) (W : World) : Exit → Act → World → Prop
 | .normal, _, W' => KeepsOthers W W' ∧ BackK n₀ Bs W W' ∧ I xs W'
 | .ret, _, W' => KeepsOthers W W' ∧ Ix xs W'
 | _, _, _ => False
theorem range_free {g : Operand} {ps : Array Tmp} {assign body : Code} {Q : Exit → Act → World → Prop} {a : Act} {w : World}
    (Bs n₀ cap : Nat) (A : Option Addr) (xs : List Nat) (hd : Dig xs) (hlen : xs.length ≤ 1000000) (w0 : World)
    (hg : a.eval g = .func (.func 135) #[] #[.pointer (some ⟨Bs, 0, none⟩)])
    (hBs : Bs < w.heap.size) (hn₀ : n₀ ≤ w.heap.size) (hc : w.cell? ⟨Bs, 0, none⟩ = some (.slice A xs.length cap)) (hU : Us w0 A cap xs) (h00 : w0.heap.size = n₀) (hb0 : Below n₀ w0 w)
    (hps : ps.size = 2) (I Ix : List (Item xs.length) → World → Prop) (hI : Marks w.heap.size I) (hX : Marks w.heap.size Ix) (h0 : I [] w) (a₁ : Item xs.length → Act)
    (hassign : ∀ (l : Nat) (x : Item xs.length) (W : World) (K : Act → World → Prop), K (a₁ x) W →
      assign.wpIn (Fence.wide.inRound l) 2 Tryz.prog (Exit.then K (fun _ _ _ => False)) { tmps := (ps.zip (itemE x)).foldl (fun t (p, v) => t.setIfInBounds p v) a.tmps, defers := [] } W)
    (hbody : ∀ (l : Nat) (pre : List (Item xs.length)) (x : Item xs.length) (W : World), I pre W → pre.length < xs.length → body.wpIn (Fence.wide.inRound l) 2 Tryz.prog (RoundEnd n₀ Bs I Ix (pre ++ [x]) W) (a₁ x) W)
    (hdone : ∀ (D : Nat) (ys : List (Item xs.length)) (W : World), w.heap.size ≤ D → ys = its xs hd xs.length → I ys W → W.heap[D]? = some (.deferred (some [])) → Q .normal { a with defers := { target := .collected D, args := #[] } :: a.defers } W)
    (hstop : ∀ (D : Nat) (pre : List (Item xs.length)) (W : World), w.heap.size ≤ D → (∃ k, k ≤ xs.length ∧ pre = its xs hd k) → Ix pre W → W.heap[D]? = some (.deferred (some [])) → Code.ret.wpIn Fence.wide 4 Tryz.prog Q { a with defers := { target := .collected D, args := #[] } :: a.defers } W) :
    (Code.rangeFunc g ps assign body).wpIn Fence.wide 4 Tryz.prog Q a w := by
  refine wpIn_rangeFunc fun fn hfn => ?_
  let mark : Obj := .deferred (some [])
  let rec0 : Loop := { state := .ready, pending := none, fn := fn, tmps := a.tmps, params := ps, assign := assign, body := body, defers := w.heap.size }
  obtain ⟨V, hV⟩ : ∃ V, (w.alloc mark).alloc (.loop rec0) = V := ⟨_, rfl⟩
  have hsV : V.heap.size = w.heap.size + 2 := by rw [← hV]; simp
  have hmk : V.heap[w.heap.size]? = some mark := by
    rw [← hV]; exact (Below.heap_alloc _ _ _ (by simp)).trans (World.alloc_heap_new w _)
  have hlp : V.heap[w.heap.size + 1]? = some (.loop rec0) := by
    have := World.alloc_heap_new (w.alloc mark) (.loop rec0)
    rw [World.size_alloc] at this
    rw [← hV]; exact this
  have hIV : I [] V := by rw [← hV]; exact hI.lay _ _ _ (hI.lay _ _ _ h0 rfl) rfl
  have hbV : Below w.heap.size w V := by rw [← hV]; exact ((Below.refl _ w).alloc (Nat.le_refl _) _).alloc (by simp) _
  refine ⟨w.heap.size + 1, [{ target := .collected w.heap.size, args := #[] }], V, { target := .fn (.func 135) #[.pointer (some ⟨Bs, 0, none⟩)], args := #[.func (.yield (w.heap.size + 1)) #[] #[]] }, V, 135,
    #[.func (.yield (w.heap.size + 1)) #[] #[], .pointer (some ⟨Bs, 0, none⟩)], V, ?_, ?_, fun _ _ => trivial, ?_, (fun _ => by decide), ?_⟩
  · rw [← hV]; exact run_enterLoop_outer _ _ _ _ _
  · simp only [resolve, hg]
    simp [go_sem]
  · have eg : ∀ args w, (callFunc 135 args).run Tryz.prog w = .ok (.enter 135 args) w := enters_of Tryz.func135 (by kernel_rfl) rfl
    simp [invoke, go_sem, eg]
  · have both : ∀ (W W' : World) (r r' : Loop), W.heap[w.heap.size + 1]? = some (.loop r) → W' = W.putObj (w.heap.size + 1) (.loop r') → W.heap[w.heap.size]? = some mark →
        W'.heap[w.heap.size + 1]? = some (.loop r') ∧ W'.heap[w.heap.size]? = some mark := fun W W' r r' h1 h2 h3 => by
      subst h2
      exact ⟨World.putObj_heap_same (Array.getElem?_eq_some_iff.1 h1).1, (World.putObj_heap_other (by omega)).trans h3⟩
    refine (back_free Bs n₀ cap A xs hd hlen w0 w hBs hn₀ hc hU h00 hb0 (w.heap.size + 1)
      (fun pre W => I pre W ∧ W.heap[w.heap.size + 1]? = some (.loop rec0) ∧ W.heap[w.heap.size]? = some mark)
      (fun pre W => Ix pre W ∧ W.heap[w.heap.size + 1]? = some (.loop { rec0 with state := .done, pending := some .ret }) ∧ W.heap[w.heap.size]? = some mark)
      V hbV ?_ ⟨hIV, hlp, hmk⟩).mono ?_
    · rintro pre x W ⟨hi, hl, hk⟩ hlen
      refine ⟨fn, _, assign, body, run_yield (P := Tryz.prog) (args := itemE x) hl (by rw [show rec0.params = ps from rfl, hps]; rfl), roundIn_of_wpIn hfn (hassign _ x W _ ?_)⟩
      obtain ⟨h1, h2⟩ := both W _ rec0 { rec0 with state := .busy } hl rfl hk
      refine ⟨_, run_beginRound hl rfl, wpIn_mono (hbody _ pre x _ (hI.put _ _ _ _ _ hi (by omega) hl rfl) hlen) ?_⟩
      rintro e a3 W3 hp
      have s2 := BackK.b (n₀ := n₀) (Bs := Bs) hn₀ hBs W (w.heap.size + 1) (.loop rec0) (.loop { rec0 with state := .busy }) (by omega) hl rfl rfl
      cases e with
      | normal =>
        obtain ⟨k3, b3, i3⟩ := hp
        have l3 := k3.same _ _ h1 rfl
        obtain ⟨h4, h5⟩ := both W3 _ { rec0 with state := .busy } rec0 l3 rfl (k3.same _ _ h2 rfl)
        exact ⟨_, _, run_endRound (P := Tryz.prog) none l3, .inl ⟨rfl, ⟨hI.put _ _ _ _ _ i3 (by omega) l3 rfl, h4, h5⟩, (s2.trans b3).trans (BackK.b hn₀ hBs W3 (w.heap.size + 1) _ _ (by omega) l3 rfl rfl)⟩⟩
      | ret =>
        obtain ⟨k3, i3⟩ := hp
        have l3 := k3.same _ _ h1 rfl
        obtain ⟨h4, h5⟩ := both W3 _ { rec0 with state := .busy } { rec0 with state := .done, pending := some .ret } l3 rfl (k3.same _ _ h2 rfl)
        exact ⟨_, _, run_endRound (P := Tryz.prog) (some .ret) l3, .inr ⟨rfl, hX.put _ _ _ _ _ i3 (by omega) l3 rfl, h4, h5⟩⟩
      | exit id => exact hp.elim
      | goto t => exact hp.elim
      | panic ch => exact hp.elim
      | outgrown => exact hp.elim
    · rintro e W2 ⟨⟨v, rfl⟩, (⟨ys, hS, hi, hl, hk⟩ | ⟨pre, hSp, hi, hl, hk⟩)⟩
      · exact ⟨none, _, run_endLoop (P := Tryz.prog) hl (by simp [rec0]), hdone _ ys _ (Nat.le_refl _) hS (hI.put _ _ _ _ _ hi (by omega) hl rfl) ((World.putObj_heap_other (by omega)).trans hk)⟩
      · exact ⟨some .ret, _, run_endLoop (P := Tryz.prog) hl (by simp), hstop _ pre _ (Nat.le_refl _) hSp (hX.put _ _ _ _ _ hi (by omega) hl rfl) ((World.putObj_heap_other (by omega)).trans hk)⟩
def trimJ (A : Option Addr) (c B0 : Nat) (xs : List Nat) (w : World) (pre : List (Item xs.length)) (W : World) : Prop :=
 ((∀ y ∈ pre, y.1.2 = 0) ∧ W.cell? ⟨B0, 0, none⟩ = some (.slice A xs.length c) ∧ W.cell? ⟨B0 + 1, 0, none⟩ = some (.slice none 0 0) ∧ W.frozen? ⟨B0 + 1, 0, none⟩ = false) ∧ Gro w W
def trimY (A : Option Addr) (c B0 : Nat) (xs : List Nat) (w : World) (pre : List (Item xs.length)) (W : World) : Prop :=
 (∃ p x, pre = p ++ [x] ∧ (∀ y ∈ p, y.1.2 = 0) ∧ x.1.2 ≠ 0 ∧ W.cell? ⟨B0 + 1, 0, none⟩ = some (.slice A (x.1.1 + 1) c)) ∧ Gro w W
def RetTG (A : Option Addr) (c : Nat) (xs : List Nat) (w : World) (e : Ending) (w' : World) : Prop :=
 ∃ A' c' rs, e = .returned (.slice A' rs.length c') ∧ (∀ W, Us W A c xs → Us W A' c' rs) ∧ Canon rs ∧ val rs = val xs ∧ rs.length ≤ xs.length ∧ Gro w w'
set_option maxRecDepth 100000 in
set_option maxHeartbeats 2000000 in
theorem trim_gro (A : Option Addr) (c : Nat) (xs : List Nat) (w : World) (h : Us w A c xs) (hl : xs.length ≤ 1000000) :
  Calls Tryz.prog 107 #[.slice A xs.length c] w (RetTG A c xs w) := by
 refine (callsIn_wide (n := 4)).1 ?_
 have hd := h.1
 obtain ⟨hcap1, hcap2⟩ := h.cap
 have HH := Lib.hid h
 clear h
 refine callsIn_of_wp_marks Tryz.func107 rfl trivial ?_ rfl
 simp only [Tryz.ntmps107, List.size_toArray, List.length_cons, List.length_nil, Nat.reduceAdd, Nat.reduceSub, Array.replicate_succ, Array.replicate_zero, List.push_toArray, List.append_toArray, List.nil_append, List.cons_append]
 gi_wp2_with (refine ⟨trivial, ?_⟩; gi_at_call 128; refine (callsIn_wide.2 (back_any _ _ _ _)).mono ?_; rintro e w' ⟨rfl, rfl⟩)
 have c0 := cell_new_l w (.slice A xs.length c) 40
 have c1 := cell_new_l (w.alloc (.cells #[.slice A xs.length c] 40)) (.slice none 0 0) 40
 have c2 := cell_new_l ((w.alloc (.cells #[.slice A xs.length c] 40)).alloc (.cells #[.slice none 0 0] 40)) (.slice A xs.length c) 40
 simp only [World.size_alloc] at c1 c2
 have hG0 : Gro w (((w.alloc (.cells #[.slice A xs.length c] 40)).alloc (.cells #[.slice none 0 0] 40)).alloc (.cells #[.slice A xs.length c] 40)) := (((Gro.refl w).alloc _).alloc _).alloc _
 refine range_free (w.heap.size + 1 + 1) w.heap.size c A xs hd hl w rfl (by simp) (by simp; omega) c2.1 HH.out rfl hG0.b rfl
  (trimJ A c w.heap.size xs w) (trimY A c w.heap.size xs w)
  (Marks.and (Marks.of_own (fun s A B row hs hg hr => ⟨hs.1, cell_kept hs.2.1 hg hr, cell_kept hs.2.2.1 hg hr, (frozen_kept hs.2.2.1 hg hr).trans hs.2.2.2⟩)) (Marks.gro (by simp; omega)))
  (Marks.and (Marks.of_own (fun s A B row hs hg hr => by obtain ⟨p, x, e1, e2, e3, e4⟩ := hs; exact ⟨p, x, e1, e2, e3, cell_kept e4 hg hr⟩)) (Marks.gro (by simp; omega)))
  ⟨⟨by simp, cell_alloc_l _ (cell_alloc_l _ c0.1), cell_alloc_l _ c1.1, frozen_alloc_l _ c1.1 c1.2⟩, hG0⟩
  (fun x => { tmps := #[.slice A xs.length c, .pointer (some ⟨w.heap.size, 0, none⟩), .pointer (some ⟨w.heap.size + 1, 0, none⟩), .int .i64 (x.1.1 : Int), .int .u32 (x.1.2 : Int), .slice A xs.length c, .func (.func 135) #[] #[.pointer (some ⟨w.heap.size + 1 + 1, 0, none⟩)], .int .i64 (x.1.1 : Int), .int .u32 (x.1.2 : Int), undef, undef, undef, undef, undef, undef], defers := [] }) ?assign ?body ?done ?stop
 case assign =>
  intro l x W K hK
  unfold itemE
  gi_wp2
  exact hK
 case body =>
  rintro l pre x W ⟨⟨hz, hca, hcr, hfr⟩, hB⟩ hpre
  obtain ⟨⟨i, y⟩, hxi⟩ := x
  have hi' : i < xs.length := hxi.1 (by omega)
  have hy : y < 4294967296 := hxi.2
  dsimp only
  have HZ := Lib.hid hz
  have HB := Lib.hid hB
  clear hz hB c0 c1 c2 hG0
  by_cases hy0 : y = 0
  ·
   subst hy0
   gi_wp2
   refine ⟨KeepsOthers.refl _, BackK.refl _ _ _, ⟨fun z hz => ?_, hca, hcr, hfr⟩, HB.out⟩
   rcases List.mem_append.1 hz with hz | hz
   ·
    exact HZ.out z hz
   ·
    simp only [List.mem_singleton] at hz; subst hz; rfl
  ·
   have t1 : ((y : Int) != 0) = true := by rw [bne_iff_ne]; omega
   have hic : (i : Int) + 1 ≤ (c : Int) := by omega
   gi_wp2
   refine ⟨KeepsOthers.setCell _ _ _, ⟨pre, _, rfl, HZ.out, hy0, World.cell?_setCell_same' _ _ _ (by rw [hcr]; rfl)⟩, HB.out.setCell (p := ⟨w.heap.size + 1, 0, none⟩) (by simp) _⟩
 case done =>
  rintro D ys W hD rfl ⟨⟨hz, hca, hcr, hfr⟩, hB⟩ hK
  have hv := trim_none hz
  have HZ := Lib.hid hz
  have HB := Lib.hid hB
  have HV := Lib.hid hv
  clear hz hB hv c0 c1 c2 hG0
  gi_wp2
  have hK' := (KeepsOthers.setCell W ⟨w.heap.size + 1, 0, none⟩ (.slice none 0 0)).same D _ hK rfl
  refine ⟨by simp, .inl ⟨_, _, rfl, run_takeDeferred hK', ?_⟩⟩
  have hc5 := cell_kept (World.cell?_setCell_same' W ⟨w.heap.size + 1, 0, none⟩ (.slice none 0 0) (by rw [hcr]; rfl)) (grownBy_putObj' _ D (.deferred none)) (fun r e => by cases e; exact ⟨_, hK', rfl⟩)
  refine ⟨.slice none 0 0, ?_, none, 0, [], rfl, fun W _ => Us.nil W, canon_nil, by rw [HV.out]; rfl, Nat.zero_le _, (HB.out.setCell (p := ⟨w.heap.size + 1, 0, none⟩) (by simp) _).put (.deferred none) (by simp at hD; omega) hK'⟩
  simp [results, Tryz.f107, go_sem, hc5]
 case stop =>
  rintro D pre W hD ⟨k, hk, hpre⟩ ⟨⟨p, x, e1, e2, e3, hcr⟩, hB⟩ hK
  obtain ⟨g1, g2, g3, g4⟩ := trim_some hk (e1.symm.trans hpre) e2 e3
  have HB := Lib.hid hB
  clear hB e1 e2 hpre c0 c1 c2 hG0
  gi_wp2
  refine ⟨by simp, .inl ⟨_, _, rfl, run_takeDeferred hK, ?_⟩⟩
  have hc5 := cell_kept hcr (grownBy_putObj' _ D (.deferred none)) (fun r e => by cases e; exact ⟨_, hK, rfl⟩)
  refine ⟨.slice A (x.1.1 + 1) c, ?_, A, c, xs.take (x.1.1 + 1), ?_, fun W hW => hW.take (by omega), g3, g4, by rw [List.length_take]; omega, HB.out.put (.deferred none) (by simp at hD; omega) hK⟩
  ·
   simp [results, Tryz.f107, go_sem, hc5]
  ·
   rw [List.length_take, Nat.min_eq_left (by omega)]
end Go.Proofs.YtmfncapgikobkaaGreat
