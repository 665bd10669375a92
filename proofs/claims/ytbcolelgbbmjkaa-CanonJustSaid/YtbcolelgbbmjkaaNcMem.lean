/-
  canon: memory: what a call may turn; a node that is filled kid by kid; a row of numbers of the call's own.
-/
import Derived.Test.YtbcolelgbbmjkaaNcS
import Derived.Test.YtbcolelgbbmjkaaNdOwn
import Derived.Test.YtbcolelgbbmjkaaNdEnd
import Derived.Test.YtbcolelgbbmjkaaNdAlive

namespace Go.Proofs.Ytbcolelgbbmjkaa
set_option linter.unusedVariables false
set_option linter.unusedSimpArgs false
open Go.RowKit Nds
/-- Of what was there only the blocks of P may have turned. -/
structure Ky (P : Nat → Prop) (w w' : World) : Prop where
  os : w'.os = w.os
  tape : w'.tape = w.tape
  output : w'.output = w.output
  size : w.heap.size ≤ w'.heap.size
  block : ∀ k, k < w.heap.size → ¬ P k → w'.heap[k]? = w.heap[k]?
theorem Ky.refl (P : Nat → Prop) (w : World) : Ky P w w := ⟨rfl, rfl, rfl, Nat.le_refl _, fun _ _ _ => rfl⟩
theorem Ky.trans {P Q : Nat → Prop} {a b c : World} (h : Ky P a b) (k : Ky Q b c) (hQ : ∀ i, i < a.heap.size → Q i → P i) : Ky P a c :=
  ⟨k.os.trans h.os, k.tape.trans h.tape, k.output.trans h.output, Nat.le_trans h.size k.size, fun i hi hn => (k.block i (Nat.lt_of_lt_of_le hi h.size) (fun hq => hn (hQ i hi hq))).trans (h.block i hi hn)⟩
theorem Ky.gb {P : Nat → Prop} {a b c : World} {r : Option Nat} (h : Ky P a b) (k : b.grownBy c r) (hr : ∀ i, i < a.heap.size → r = some i → P i) : Ky P a c :=
  ⟨k.os.trans h.os, k.tape.trans h.tape, k.output.trans h.output, Nat.le_trans h.size k.size, fun i hi hn => (k.block i (Nat.lt_of_lt_of_le hi h.size) (fun hq => hn (hr i hi hq.symm))).trans (h.block i hi hn)⟩
theorem Ky.alloc {P : Nat → Prop} {a b : World} (h : Ky P a b) (o : Obj) : Ky P a (b.alloc o) := h.gb (World.grownBy_alloc b o none) (fun _ _ e => by cases e)
theorem Ky.below {P : Nat → Prop} {a b c : World} (h : Ky P a b) (k : Below b.heap.size b c) : Ky P a c :=
  ⟨k.os.trans h.os, k.tape.trans h.tape, k.output.trans h.output, Nat.le_trans h.size k.size, fun i hi hn => (k.block i (Nat.lt_of_lt_of_le hi h.size)).trans (h.block i hi hn)⟩
theorem Ky.set {P : Nat → Prop} {a b : World} (h : Ky P a b) (p : Addr) (hp : p.block < a.heap.size → P p.block) (u : Value) : Ky P a (b.setCell p u) :=
  ⟨h.os, h.tape, h.output, by simpa [World.setCell] using h.size, fun i hi hn => (Below.heap_setCell _ _ _ _ (fun e => hn (by subst e; exact hp hi))).trans (h.block i hi hn)⟩
theorem Ky.to {P : Nat → Prop} {a b : World} (h : Ky P a b) {B : Nat} (hB : B ≤ a.heap.size) (hP : ∀ k, P k → B ≤ k) : Below B a b :=
  ⟨h.os, h.tape, h.output, h.size, fun k hk => h.block k (Nat.lt_of_lt_of_le hk hB) (fun hp => Nat.not_lt.2 (hP k hp) hk)⟩
/-- x with the first so many kids of y. -/
def mix (x y : Nd) (k : Nat) : Nd := ⟨x.lv, if 0 < k then y.a else x.a, if 1 < k then y.b else x.b, if 2 < k then y.c else x.c, if 3 < k then y.d else x.d⟩
theorem mix_zero (x y : Nd) : mix x y 0 = x := rfl
theorem mix_four {x y : Nd} (h : x.lv = y.lv) : mix x y 4 = y := by
  unfold mix
  rw [h]
  rfl
theorem mix_kid (x y : Nd) (k : Nat) {i : Nat} (hi : i < 4) : (mix x y k).kid i = if i < k then y.kid i else x.kid i := by
  match i, hi with
  | 0, _ => rfl
  | 1, _ => rfl
  | 2, _ => rfl
  | 3, _ => rfl
theorem NdAt.setKid {w : World} {b : Nat} {x y : Nd} {k : Nat} (h : NdAt w b 0 (mix x y k)) (hk : k < 4) {o : Nat} (ho : o = 1 + k) {u : Int} (hu : u = y.kid k) : NdAt (w.setCell ⟨b, o, none⟩ (.int .i64 u)) b 0 (mix x y (k + 1)) := by
  subst ho
  subst hu
  obtain ⟨h0, h1, h2, h3, h4⟩ := h
  have oth : ∀ i j : Nat, i ≠ j → (w.setCell ⟨b, i, none⟩ (.int .i64 (y.kid k))).cell? ⟨b, j, none⟩ = w.cell? ⟨b, j, none⟩ := fun i j hij => World.cell?_setCell_other _ _ _ _ (fun e => hij (by cases e; rfl))
  match k, hk with
  | 0, _ => exact ⟨(oth _ _ (by omega)).trans h0, World.cell?_setCell_same _ _ _ h1, (oth _ _ (by omega)).trans h2, (oth _ _ (by omega)).trans h3, (oth _ _ (by omega)).trans h4⟩
  | 1, _ => exact ⟨(oth _ _ (by omega)).trans h0, (oth _ _ (by omega)).trans h1, World.cell?_setCell_same _ _ _ h2, (oth _ _ (by omega)).trans h3, (oth _ _ (by omega)).trans h4⟩
  | 2, _ => exact ⟨(oth _ _ (by omega)).trans h0, (oth _ _ (by omega)).trans h1, (oth _ _ (by omega)).trans h2, World.cell?_setCell_same _ _ _ h3, (oth _ _ (by omega)).trans h4⟩
  | 3, _ => exact ⟨(oth _ _ (by omega)).trans h0, (oth _ _ (by omega)).trans h1, (oth _ _ (by omega)).trans h2, (oth _ _ (by omega)).trans h3, World.cell?_setCell_same _ _ _ h4⟩
/-- A node in a block of its own. -/
def NdBox (w : World) (g : Nat) (x : Nd) : Prop := w.heap[g]? = some (.cells #[.int .i64 x.lv, .int .i64 x.a, .int .i64 x.b, .int .i64 x.c, .int .i64 x.d] 38)
theorem NdBox.lt {w : World} {g : Nat} {x : Nd} (h : NdBox w g x) : g < w.heap.size := (Array.getElem?_eq_some_iff.1 h).1
theorem NdBox.at_ {w : World} {g : Nat} {x : Nd} (h : NdBox w g x) : NdAt w g 0 x := by
  refine ⟨?_, ?_, ?_, ?_, ?_⟩ <;> (rw [cell_of_row w g _ _ _ (0, 0) h]; rfl)
theorem NdBox.free {w : World} {g : Nat} {x : Nd} (h : NdBox w g x) (k : Nat) : w.frozen? ⟨g, k, none⟩ = false := frozen_of_row w g k _ _ h
theorem NdBox.new (w : World) (x : Nd) : NdBox (w.alloc (.cells #[.int .i64 x.lv, .int .i64 x.a, .int .i64 x.b, .int .i64 x.c, .int .i64 x.d] 38)) w.heap.size x := heap_alloc_new w _
theorem NdBox.stay {w w' : World} {g : Nat} {x : Nd} (h : NdBox w g x) (hb : w'.heap[g]? = w.heap[g]?) : NdBox w' g x := hb.trans h
theorem NdBox.setKid {w : World} {g : Nat} {x y : Nd} {k : Nat} (h : NdBox w g (mix x y k)) (hk : k < 4) {o : Nat} (ho : o = 1 + k) {u : Int} (hu : u = y.kid k) : NdBox (w.setCell ⟨g, o, none⟩ (.int .i64 u)) g (mix x y (k + 1)) := by
  subst ho
  subst hu
  refine (heap_setCell_same w g (1 + k) _ _ _ h).trans ?_
  match k, hk with
  | 0, _ => rfl
  | 1, _ => rfl
  | 2, _ => rfl
  | 3, _ => rfl
/-- An array of four in a block of its own. -/
def FrBox (w : World) (g : Nat) (x : Nd) : Prop := w.heap[g]? = some (.cells #[.int .i64 x.a, .int .i64 x.b, .int .i64 x.c, .int .i64 x.d] 36)
theorem FrBox.lt {w : World} {g : Nat} {x : Nd} (h : FrBox w g x) : g < w.heap.size := (Array.getElem?_eq_some_iff.1 h).1
theorem FrBox.at_ {w : World} {g : Nat} {x : Nd} (h : FrBox w g x) : w.cell? ⟨g, 0, none⟩ = some (.int .i64 x.a) ∧ w.cell? ⟨g, 1, none⟩ = some (.int .i64 x.b) ∧ w.cell? ⟨g, 2, none⟩ = some (.int .i64 x.c) ∧ w.cell? ⟨g, 3, none⟩ = some (.int .i64 x.d) := by
  refine ⟨?_, ?_, ?_, ?_⟩ <;> (rw [cell_of_row w g _ _ _ (0, 0) h]; rfl)
theorem FrBox.free {w : World} {g : Nat} {x : Nd} (h : FrBox w g x) (k : Nat) : w.frozen? ⟨g, k, none⟩ = false := frozen_of_row w g k _ _ h
theorem FrBox.new (w : World) (x : Nd) : FrBox (w.alloc (.cells #[.int .i64 x.a, .int .i64 x.b, .int .i64 x.c, .int .i64 x.d] 36)) w.heap.size x := heap_alloc_new w _
theorem FrBox.stay {w w' : World} {g : Nat} {x : Nd} (h : FrBox w g x) (hb : w'.heap[g]? = w.heap[g]?) : FrBox w' g x := hb.trans h
theorem FrBox.cell {w : World} {g : Nat} {x : Nd} (h : FrBox w g x) {k : Nat} (hk : k < 4) : w.cell? ⟨g, k, none⟩ = some (.int .i64 (x.kid k)) := by
  rw [cell_of_row w g _ _ _ (0, 0) h]
  match k, hk with
  | 0, _ => rfl
  | 1, _ => rfl
  | 2, _ => rfl
  | 3, _ => rfl
theorem FrBox.setMid {w : World} {g : Nat} {y : Nd} {k : Nat} (h : FrBox w g nd0) (hk : k < 4) {u : Int} (hu : u = y.kid k) : FrBox (w.setCell ⟨g, k, none⟩ (.int .i64 u)) g (midN y k) := by
  subst hu
  refine (heap_setCell_same w g k _ _ _ h).trans ?_
  match k, hk with
  | 0, _ => rfl
  | 1, _ => rfl
  | 2, _ => rfl
  | 3, _ => rfl
/-- Two arrays of four compared. -/
theorem neq_same4 (x y : Nd) (hx : x.wf) (hy : y.wf) (w : World) : (binOp .neq 36 (.agg #[.int .i64 x.a, .int .i64 x.b, .int .i64 x.c, .int .i64 x.d]) (.agg #[.int .i64 y.a, .int .i64 y.b, .int .i64 y.c, .int .i64 y.d])).run Try.prog w = .ok (.bool (!same4 x y)) w := by
  obtain ⟨h0, h1, h2, h3, h4⟩ := hx
  obtain ⟨g0, g1, g2, g3, g4⟩ := hy
  obtain ⟨r, hr, hi⟩ := run_equalIn_deep (P := Try.prog) 9996 4 36 (by kernel_rfl) w 2 2 _ _ _ _ (form_four x.a x.b x.c x.d) (form_four y.a y.b y.c y.d) (key_four h1 h2 h3 h4 0) (key_four g1 g2 g3 g4 0)
  have e : r = same4 x y := by
    rw [Bool.eq_iff_iff, hi]
    unfold same4
    rw [decide_eq_true_iff]
    simp [and_assoc]
  rw [run_neq_struct, ← e, show (10000 : Nat) = 9996 + 4 from rfl, hr]
  rfl
/-- Block g is a row of n numbers, ds, made by the call. -/
def OwnD (w : World) (base g n : Nat) (ds : List Nat) : Prop :=
  ds.length = n ∧ w.ownsRow base 3 1 (.slice (some ⟨g, 0, none⟩) n n) n (ds.map fun k : Nat => Value.int .i64 (k : Int))
theorem OwnD.cell {w : World} {base g n : Nat} {ds : List Nat} (h : OwnD w base g n ds) {k : Nat} (hk : k < n) : w.cell? ⟨g, k, none⟩ = some (.int .i64 ((ds.getD k 0 : Nat) : Int)) := by
  have hl : k < ds.length := by have := h.1; omega
  rw [h.2.cellAt k (by omega), List.getElem?_map, List.getD_eq_getElem?_getD, List.getElem?_eq_getElem hl]
  rfl
theorem OwnD.free {w : World} {base g n : Nat} {ds : List Nat} (h : OwnD w base g n ds) (k : Nat) : w.frozen? ⟨g, k, none⟩ = false := h.2.frozenAt k
theorem OwnD.set {w : World} {base g n : Nat} {ds : List Nat} (h : OwnD w base g n ds) (k u : Nat) : OwnD (w.setCell ⟨g, k, none⟩ (.int .i64 (u : Int))) base g n (ds.set k u) := by
  refine ⟨by simpa using h.1, ?_⟩
  rw [List.map_set]
  exact (h.2.stored k _).1
theorem OwnD.lt {w : World} {base g n : Nat} {ds : List Nat} (h : OwnD w base g n ds) : base ≤ g ∧ g < w.heap.size := h.2.lt g rfl
theorem OwnD.gbr {w w' : World} {base g n : Nat} {ds : List Nat} {row : Option Nat} (h : OwnD w base g n ds) (hg : w.grownBy w' row) (hv : row ≠ some g) : OwnD w' base g n ds := ⟨h.1, h.2.kept hg (.inr (fun e => hv e.symm))⟩
theorem gb_setCell (w : World) (p : Addr) (u : Value) : w.grownBy (w.setCell p u) (some p.block) :=
  ⟨rfl, rfl, rfl, by simp [World.setCell], fun i _ hi => Below.heap_setCell _ _ _ _ (fun e => hi (by rw [e]))⟩
theorem ownN_none (w : World) (base : Nat) : OwnN w base (.slice none 0 0) [] := ⟨by simp, World.ownsRow_nil w base _ 5⟩
theorem own_dec {v : Value} {r : Option Nat} (h : ∀ k, v.ownBlock = some k → r ≠ some k) : v.ownBlock = none ∨ v.ownBlock ≠ r := by
  cases hv : v.ownBlock with
  | none => exact .inl rfl
  | some k => exact .inr (fun e => h k hv e.symm)
end Go.Proofs.Ytbcolelgbbmjkaa
