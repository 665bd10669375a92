/-
  canon: ordered's add.
  canon: alive.
  big: Int of the program and of the reference.
-/
import Derived.Test.YtmfncapgikobkaaGreatGNcKM
import Derived.Laws.EntriesVeiled
import Derived.LoopN
import Derived.Test.YtmfncapgikobkaaGreatGNdsW

namespace Go.Proofs.YtmfncapgikobkaaGreat
set_option maxRecDepth 100000
set_option linter.unusedVariables false
set_option linter.unusedSimpArgs false
open Go.RowKit Nds
theorem box_cell {w : World} {g : Nat} {u : Value} {t : TypeId} (h : w.heap[g]? = some (.cells #[u] t)) : w.cell? ⟨g, 0, none⟩ = some u := by
 rw [cell_of_row w g _ _ _ _ h]
 rfl
theorem box_lt {w : World} {g : Nat} {o : Obj} (h : w.heap[g]? = some o) : g < w.heap.size := (Array.getElem?_eq_some_iff.1 h).1
end Go.Proofs.YtmfncapgikobkaaGreat

namespace Go.Proofs.YtmfncapgikobkaaGreat
set_option maxRecDepth 100000
set_option linter.unusedVariables false
set_option linter.unusedSimpArgs false
open Go.RowKit Nds
structure Al (w W : World) (L : List (Option Addr × Nat × List Nd)) (M : List (Nat × Value)) : Prop where
 sn : Sn w W L
 bx : ∀ t ∈ M, W.heap[t.1]? = some (.cells #[t.2] 27)
theorem Al.start (w : World) : Al w w [] [] := ⟨Sn.start w, by simp⟩
theorem Al.step {w W W' : World} {L : List (Option Addr × Nat × List Nd)} {M : List (Nat × Value)} (s : Al w W L M) (b : Below W.heap.size W W') : Al w W' L M :=
 ⟨s.sn.step b, fun t ht => (b.block t.1 (box_lt (s.bx t ht))).trans (s.bx t ht)⟩
theorem Al.alloc {w W : World} {L : List (Option Addr × Nat × List Nd)} {M : List (Nat × Value)} (s : Al w W L M) (o : Obj) : Al w (W.alloc o) L M := s.step ((Below.refl _ W).alloc (Nat.le_refl _) o)
theorem Al.addN {w W : World} {L : List (Option Addr × Nat × List Nd)} {M : List (Nat × Value)} (s : Al w W L M) {A : Option Addr} {c : Nat} {l : List Nd} (h : Ns W A c l) : Al w W ((A, c, l) :: L) M := ⟨s.sn.add h, s.bx⟩
theorem Al.addB {w W : World} {L : List (Option Addr × Nat × List Nd)} {M : List (Nat × Value)} (s : Al w W L M) (v : Value) : Al w (W.alloc (.cells #[v] 27)) L ((W.heap.size, v) :: M) :=
 ⟨(s.alloc _).sn, fun t ht => by
  rcases List.mem_cons.1 ht with rfl | ht
  ·
   exact heap_alloc_new W _
  ·
   exact (s.alloc _).bx t ht⟩
theorem Al.getN {w W : World} {L : List (Option Addr × Nat × List Nd)} {M : List (Nat × Value)} (s : Al w W L M) {A : Option Addr} {c : Nat} {l : List Nd} (h : (A, c, l) ∈ L) : Ns W A c l := s.sn.get h
theorem Al.getB {w W : World} {L : List (Option Addr × Nat × List Nd)} {M : List (Nat × Value)} (s : Al w W L M) {g : Nat} {v : Value} (h : (g, v) ∈ M) : W.cell? ⟨g, 0, none⟩ = some v := box_cell (s.bx _ h)
end Go.Proofs.YtmfncapgikobkaaGreat

namespace Go.Proofs.YtmfncapgikobkaaGreat
set_option maxRecDepth 100000
set_option linter.unusedVariables false
set_option linter.unusedSimpArgs false
open Go.RowKit Num
def inI (x : Int) : Bool := decide (-9223372036854775808 ≤ x ∧ x ≤ 9223372036854775807)
def outI (x : Int) : Int := if inI x = true then x else 0
theorem inI_yes {x : Int} (h : -9223372036854775808 ≤ x ∧ x ≤ 9223372036854775807) : inI x = true ∧ outI x = x := by
 have : inI x = true := decide_eq_true h
 exact ⟨this, by unfold outI; rw [if_pos this]⟩
theorem inI_no {x : Int} (h : ¬ (-9223372036854775808 ≤ x ∧ x ≤ 9223372036854775807)) : inI x = false ∧ outI x = 0 := by
 have : inI x = false := decide_eq_false h
 exact ⟨this, by unfold outI; rw [this]; rfl⟩
set_option maxRecDepth 100000 in
theorem fits_yes (n : Int) (w : World) :
  Calls Tryz.prog 69 #[.int .i64 n, .bool true] w fun e w' => e = .returned (.tuple #[.int .i64 n, .bool true]) ∧ w = w' := by
 go_enter Tryz.func69, Tryz.ntmps69
 go_wp2
 go_ret2
 exact ⟨rfl, rfl⟩
set_option maxRecDepth 100000 in
theorem fits_no (n : Int) (w : World) :
  Calls Tryz.prog 69 #[.int .i64 n, .bool false] w fun e w' => e = .returned (.tuple #[.int .i64 0, .bool false]) ∧ w = w' := by
 go_enter Tryz.func69, Tryz.ntmps69
 go_wp2
 go_ret2
 exact ⟨rfl, rfl⟩
theorem fits_pos (v : Nat) (w : World) :
  Calls Tryz.prog 69 #[.int .i64 (wrap64 (v : Int)), .bool (decide ((v : Int) ≤ 9223372036854775807))] w fun e w' => e = .returned (.tuple #[.int .i64 (outI v), .bool (inI v)]) ∧ w = w' := by
 by_cases h : (v : Int) ≤ 9223372036854775807
 ·
  obtain ⟨h1, h2⟩ := inI_yes (x := v) ⟨by omega, h⟩
  rw [decide_eq_true h, h1, h2, IntWalk.wrap64_in _ ⟨by omega, h⟩]
  exact fits_yes _ w
 ·
  obtain ⟨h1, h2⟩ := inI_no (x := v) (by omega)
  rw [decide_eq_false h, h1, h2]
  exact fits_no _ w
theorem fits_neg (v : Nat) (w : World) :
  Calls Tryz.prog 69 #[.int .i64 (wrap64 (-wrap64 (v : Int))), .bool (decide ((v : Int) ≤ 9223372036854775808))] w fun e w' => e = .returned (.tuple #[.int .i64 (outI (-v)), .bool (inI (-v))]) ∧ w = w' := by
 by_cases h : (v : Int) ≤ 9223372036854775808
 ·
  obtain ⟨h1, h2⟩ := inI_yes (x := -v) ⟨by omega, by omega⟩
  have e : wrap64 (-wrap64 (v : Int)) = -v := by unfold wrap64; omega
  rw [decide_eq_true h, h1, h2, e]
  exact fits_yes _ w
 ·
  obtain ⟨h1, h2⟩ := inI_no (x := -v) (by omega)
  rw [decide_eq_false h, h1, h2]
  exact fits_no _ w
theorem or_zero_u64 (a : Nat) (ha : a < 4294967296) : bits .or .u64 0 (a : Int) = (a : Int) := by
 have e := u64_or_nat 0 a (by decide) (by omega)
 rw [Nat.zero_or] at e
 exact e
theorem or_two_u64 (a b : Nat) (ha : a < 4294967296) (hb : b < 4294967296) : bits .or .u64 (bits .or .u64 0 (a : Int)) ((b : Int) * 4294967296) = ((val [a, b] : Nat) : Int) := by
 have e := u64_or_nat a (b * 4294967296) (by omega) (by omega)
 rw [or_zero_u64 a ha, show ((b : Int) * 4294967296) = ((b * 4294967296 : Nat) : Int) by simp, e]
 rw [Nat.or_comm, nat_join 32 _ _ (by simp) ha]
 simp only [val]
 omega
set_option maxRecDepth 100000 in
set_option maxHeartbeats 1600000 in
theorem bint_two (s : Bool) (A : Option Addr) (c : Nat) (a b : Nat) (w : World) (h : Us w A c [a, b]) :
  Calls Tryz.prog 39 #[.agg #[.bool s, .slice A 2 c]] w fun e w' => e = .returned (.tuple #[.int .i64 (outI (ival s [a, b])), .bool (inI (ival s [a, b]))]) ∧ Below w.heap.size w w' := by
 obtain ⟨hX, hB⟩ := box1 w (.bool s) (.slice A 2 c) 42
 have h1 := h.below hB
 obtain ⟨g, off, rfl, hg, hc⟩ := h1.at_ (by simp)
 have c0 := hc 0 (by simp)
 have c1 := hc 1 (by simp)
 simp only [List.getElem?_cons_zero, List.getElem?_cons_succ, Option.getD_some, Nat.add_zero] at c0 c1
 have ha := h.1.head
 have hb := h.1.tail.head
 have HB := Lib.hid hB
 clear hc h h1 hX hB
 unfold ival
 have HE := Lib.hid (or_two_u64 a b ha hb)
 generalize val [a, b] = v at *
 go_enter Tryz.func39, Tryz.ntmps39
 go_wp2_with fail
 refine wp_loop_rounds 3 ?_
 rw [rounds_succ]
 go_wp2_with fail
 rw [rounds_succ]
 go_wp2_with fail
 rw [rounds_succ]
 cases s
 ·
  go_wp2_with (go_at_call 69; rw [HE.out]; refine (fits_pos v _).mono ?_; rintro e w' ⟨rfl, rfl⟩)
  go_ret2
  exact ⟨rfl, HB.out⟩
 ·
  go_wp2_with (go_at_call 69; rw [HE.out]; refine (fits_neg v _).mono ?_; rintro e w' ⟨rfl, rfl⟩)
  go_ret2
  exact ⟨rfl, HB.out⟩
set_option maxRecDepth 100000 in
set_option maxHeartbeats 1600000 in
theorem bint_one (s : Bool) (A : Option Addr) (c : Nat) (a : Nat) (w : World) (h : Us w A c [a]) :
  Calls Tryz.prog 39 #[.agg #[.bool s, .slice A 1 c]] w fun e w' => e = .returned (.tuple #[.int .i64 (outI (ival s [a])), .bool (inI (ival s [a]))]) ∧ Below w.heap.size w w' := by
 obtain ⟨hX, hB⟩ := box1 w (.bool s) (.slice A 1 c) 42
 have h1 := h.below hB
 obtain ⟨g, off, rfl, hg, hc⟩ := h1.at_ (by simp)
 have c0 := hc 0 (by simp)
 simp only [List.getElem?_cons_zero, List.getElem?_cons_succ, Option.getD_some, Nat.add_zero] at c0
 have ha := h.1.head
 have HB := Lib.hid hB
 clear hc h h1 hX hB
 have ev : val [a] = a := by simp [val]
 unfold ival
 rw [ev]
 have HE := Lib.hid (or_zero_u64 a ha)
 clear ev
 go_enter Tryz.func39, Tryz.ntmps39
 go_wp2_with fail
 refine wp_loop_rounds 2 ?_
 rw [rounds_succ]
 go_wp2_with fail
 rw [rounds_succ]
 cases s
 ·
  go_wp2_with (go_at_call 69; rw [HE.out]; refine (fits_pos a _).mono ?_; rintro e w' ⟨rfl, rfl⟩)
  go_ret2
  exact ⟨rfl, HB.out⟩
 ·
  go_wp2_with (go_at_call 69; rw [HE.out]; refine (fits_neg a _).mono ?_; rintro e w' ⟨rfl, rfl⟩)
  go_ret2
  exact ⟨rfl, HB.out⟩
set_option maxRecDepth 100000 in
set_option maxHeartbeats 1600000 in
theorem bint_zero (s : Bool) (A : Option Addr) (c : Nat) (w : World) :
  Calls Tryz.prog 39 #[.agg #[.bool s, .slice A 0 c]] w fun e w' => e = .returned (.tuple #[.int .i64 (outI 0), .bool (inI 0)]) ∧ Below w.heap.size w w' := by
 obtain ⟨hX, hB⟩ := box1 w (.bool s) (.slice A 0 c) 42
 have HB := Lib.hid hB
 clear hX hB
 go_enter Tryz.func39, Tryz.ntmps39
 go_wp2_with fail
 refine wp_loop_rounds 1 ?_
 rw [rounds_succ]
 cases s
 all_goals
  go_wp2_with (go_at_call 69; refine (fits_yes 0 _).mono ?_; rintro e w' ⟨rfl, rfl⟩)
  go_ret2
  exact ⟨rfl, HB.out⟩
set_option maxRecDepth 100000 in
set_option maxHeartbeats 1600000 in
theorem bint_more (s : Bool) (A : Option Addr) (c n : Nat) (w : World) (hn : 2 < n) (hc : n ≤ 9223372036854775807) :
  Calls Tryz.prog 39 #[.agg #[.bool s, .slice A n c]] w fun e w' => e = .returned (.tuple #[.int .i64 0, .bool false]) ∧ Below w.heap.size w w' := by
 obtain ⟨hX, hB⟩ := box1 w (.bool s) (.slice A n c) 42
 have HB := Lib.hid hB
 clear hX hB
 go_enter Tryz.func39, Tryz.ntmps39
 go_wp2_with fail
 go_ret2
 exact ⟨rfl, HB.out⟩
theorem bint_any (s : Bool) (A : Option Addr) (c : Nat) (xs : List Nat) (w : World) (h : Us w A c xs) (hc : Canon xs) :
  Calls Tryz.prog 39 #[.agg #[.bool s, .slice A xs.length c]] w fun e w' => e = .returned (.tuple #[.int .i64 (outI (ival s xs)), .bool (inI (ival s xs))]) ∧ Below w.heap.size w w' := by
 rcases xs with _ | ⟨a, _ | ⟨b, _ | ⟨d, r⟩⟩⟩
 ·
  rw [ival_nil]
  exact bint_zero s A c w
 ·
  exact bint_one s A c a w h
 ·
  exact bint_two s A c a b w h
 ·
  have hge := canon_ge hc (by simp)
  have h2 : (4294967296 : Nat) ^ 2 ≤ 4294967296 ^ ((a :: b :: d :: r).length - 1) := Nat.pow_le_pow_right (by decide) (by simp)
  have hv := val_ival s (a :: b :: d :: r)
  obtain ⟨h1, h2⟩ := inI_no (x := ival s (a :: b :: d :: r)) (by omega)
  rw [h1, h2]
  exact bint_more s A c _ w (by simp) (by have := h.cap; omega)
end Go.Proofs.YtmfncapgikobkaaGreat
