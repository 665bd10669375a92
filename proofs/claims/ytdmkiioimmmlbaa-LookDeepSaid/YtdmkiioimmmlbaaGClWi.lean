/-
  cells.quarter: in which quarter a cell is.
  slices.SortFunc over cells.
  cells: what standing keeps, plain.
  cells: slices of cells that the call has made; append.
  cells.within, cells.least.
  cells.least: the least level of a root that has all cells.
  cells: the reference's within.
-/
import Derived.Test.YtdmkiioimmmlbaaGClK2
import Derived.Test.YtdmkiioimmmlbaaGNcRS
import Derived.Test.YtdmkiioimmmlbaaGNdsW

namespace Go.Proofs.Ytdmkiioimmmlbaa
set_option maxRecDepth 100000
set_option linter.unusedVariables false
set_option linter.unusedSimpArgs false
open Go.RowKit Nds Num
structure C1 (w : World) (v : Cv) (W : World) : Prop where
 g : Gro w W
 lt : w.heap.size < W.heap.size
 bv : CvAt W w.heap.size 0 v
 uv : CvU W v
theorem C1.next {w : World} {v : Cv} {W W1 : World} (h : C1 w v W) (k : Gro W W1) : C1 w v W1 :=
 ⟨h.g.trans k, Nat.lt_of_lt_of_le h.lt k.b.size, h.bv.below (k.b.block _ h.lt), h.uv.below k.b⟩
end Go.Proofs.Ytdmkiioimmmlbaa

namespace Go.Proofs.Ytdmkiioimmmlbaa
set_option maxRecDepth 100000
set_option linter.unusedVariables false
set_option linter.unusedSimpArgs false
open Go.RowKit Nds Num
def encC (v : Cv) : List Value := [.bool v.sx, .slice v.ax v.xs.length v.cx, .bool v.sy, .slice v.ay v.ys.length v.cy, .int .u8 v.st]
def Off (blk : Nat) (v : Cv) : Prop := (0 < v.xs.length → ∀ a, v.ax = some a → a.block ≠ blk) ∧ (0 < v.ys.length → ∀ a, v.ay = some a → a.block ≠ blk)
theorem us_kept {w w' : World} {blk : Nat} {A : Option Addr} {c : Nat} {xs : List Nat} (h : Us w A c xs) (hk : ∀ k, k < w.heap.size → k ≠ blk → w'.heap[k]? = w.heap[k]?) (hs : w.heap.size ≤ w'.heap.size) (ha : 0 < xs.length → ∀ a, A = some a → a.block ≠ blk) : Us w' A c xs := by
 obtain ⟨h1, h2, h3, h4⟩ := h
 refine ⟨h1, h2, h3, fun hn => ?_⟩
 obtain ⟨b, off, e, hb, hc⟩ := h4 hn
 have hne : b ≠ blk := ha (by simpa using hn) _ e
 exact ⟨b, off, e, Nat.lt_of_lt_of_le hb hs, fun j u hu => (World.cell?_of_block (a := ⟨b, off + j, none⟩) (hk b hb hne)).trans (hc j u hu)⟩
theorem cvU_kept {w w' : World} {blk : Nat} {v : Cv} (h : CvU w v) (hk : ∀ k, k < w.heap.size → k ≠ blk → w'.heap[k]? = w.heap[k]?) (hs : w.heap.size ≤ w'.heap.size) (ho : Off blk v) : CvU w' v :=
 ⟨us_kept h.1 hk hs ho.1, us_kept h.2.1 hk hs ho.2, h.2.2⟩
theorem us_lt {w : World} {A : Option Addr} {c : Nat} {xs : List Nat} (h : Us w A c xs) (hx : 0 < xs.length) : ∀ a, A = some a → a.block < w.heap.size := fun a e => by
 obtain ⟨b, off, e', hb, _⟩ := h.at_ hx
 rw [e] at e'
 cases e'
 exact hb
theorem gbN {w w' : World} (h : Below w.heap.size w w') : w.grownBy w' none := ⟨h.os, h.tape, h.output, h.size, fun k hk _ => h.block k hk⟩
end Go.Proofs.Ytdmkiioimmmlbaa

namespace Go.Proofs.Ytdmkiioimmmlbaa
set_option maxRecDepth 100000
set_option linter.unusedVariables false
set_option linter.unusedSimpArgs false
open Nds
def atP (c : Cl) (x y : Int) : Prop := c.x = x ∧ c.y = y
instance (c : Cl) (x y : Int) : Decidable (atP c x y) := by unfold atP; infer_instance
end Go.Proofs.Ytdmkiioimmmlbaa

namespace Go.Proofs.Ytdmkiioimmmlbaa
set_option maxRecDepth 100000
set_option linter.unusedVariables false
set_option linter.unusedSimpArgs false
open Go.RowKit Nds
def cvcs (l : List Cv) : List Value := l.flatMap encC
theorem cvcs_len (l : List Cv) : (cvcs l).length = l.length * 5 := by
 unfold cvcs
 induction l with
 | nil => rfl
 | cons x l ih =>
  rw [List.flatMap_cons, List.length_append, ih, List.length_cons]
  show 5 + _ = _
  omega
theorem cvcs_at : ∀ (l : List Cv) (i j : Nat), i < l.length → j < 5 → (cvcs l)[i * 5 + j]? = (encC (cat l i))[j]?
 | [], i, _, hi, _ => by simp at hi
 | x :: l, 0, j, _, hj => by
  show (encC x ++ cvcs l)[0 * 5 + j]? = _
  rw [List.getElem?_append_left (by show _ < 5; omega), show 0 * 5 + j = j by omega]
  rfl
 | x :: l, i + 1, j, hi, hj => by
  show (encC x ++ cvcs l)[(i + 1) * 5 + j]? = _
  rw [List.getElem?_append_right (by show 5 ≤ _; omega), show (i + 1) * 5 + j - (encC x).length = i * 5 + j by show _ - 5 = _; omega, cvcs_at l i j (by simpa using hi) hj]
  rfl
def OwnC (w : World) (base : Nat) (v : Value) (l : List Cv) : Prop := w.ownsRow base 27 5 v l.length (cvcs l)
theorem OwnC.shape {w : World} {base : Nat} {v : Value} {l : List Cv} (h : OwnC w base v l) :
  ∃ A c, v = .slice A l.length c ∧ l.length ≤ c ∧ c ≤ maxLen ∧ (A = none → c = 0 ∧ l = []) ∧ (∀ a, A = some a → ∃ g, a = ⟨g, 0, none⟩ ∧ base ≤ g ∧ g < w.heap.size ∧ (∀ i, i < l.length → CvAt w g (i * 5) (cat l i)) ∧ ∀ o, w.frozen? ⟨g, o, none⟩ = false) := by
 rcases h.2 with ⟨h', hn⟩ | ⟨g, cap, cur, h', hb, hg, hnc, hcm, hcs, htake⟩
 ·
  refine ⟨none, 0, by rw [h', hn], by omega, by simp [maxLen], fun _ => ⟨rfl, List.eq_nil_of_length_eq_zero hn⟩, (fun a e => by cases e)⟩
 ·
  refine ⟨some ⟨g, 0, none⟩, cap, h', hnc, hcm, (fun e => by cases e), fun a e => ?_⟩
  cases e
  have hlt : g < w.heap.size := by
   rcases Nat.lt_or_ge g w.heap.size with hlt | hge
   ·
    exact hlt
   ·
    rw [Array.getElem?_eq_none hge] at hg; cases hg
  refine ⟨g, rfl, hb, hlt, fun i hi => ?_, fun o => frozen_of_row _ _ _ _ _ hg⟩
  have hcell : ∀ j, j < 5 → w.cell? ⟨g, i * 5 + j, none⟩ = (encC (cat l i))[j]? := by
   intro j hj
   have hlt : i * 5 + j < l.length * 5 := by omega
   rw [cell_of_row w g (i * 5 + j) cur _ (0, 0) hg, ← cvcs_at l i j hi hj, ← htake, List.getElem?_take, if_pos hlt]
   simp
  exact ⟨hcell 0 (by omega), hcell 1 (by omega), hcell 2 (by omega), hcell 3 (by omega), hcell 4 (by omega)⟩
theorem OwnC.nil (w : World) (base : Nat) : OwnC w base (.slice none 0 0) [] := World.ownsRow_nil w base _ 5
theorem OwnC.kept {w w' : World} {base : Nat} {v : Value} {l : List Cv} {row : Option Nat} (h : OwnC w base v l) (hg : w.grownBy w' row) (hv : v.ownBlock = none ∨ v.ownBlock ≠ row) : OwnC w' base v l := World.ownsRow.kept h hg hv
theorem OwnC.alloc {w : World} {base : Nat} {v : Value} {l : List Cv} (h : OwnC w base v l) (o : Obj) : OwnC (w.alloc o) base v l := h.kept (World.grownBy_alloc w o none) (by cases v.ownBlock <;> simp)
theorem OwnC.lt {w : World} {base : Nat} {v : Value} {l : List Cv} (h : OwnC w base v l) : ∀ k, v.ownBlock = some k → base ≤ k ∧ k < w.heap.size := World.ownsRow.lt h
end Go.Proofs.Ytdmkiioimmmlbaa

namespace Go.Proofs.Ytdmkiioimmmlbaa
set_option maxRecDepth 100000
set_option linter.unusedVariables false
set_option linter.unusedSimpArgs false
open Go.RowKit Nds Num
structure PB (w : World) (B : Nat) (x y : Bool × Option Addr × Nat × List Nat) (W : World) : Prop where
 b : Below w.heap.size w W
 lw : w.heap.size ≤ B
 lt : B + 1 < W.heap.size
 x0 : W.cell? ⟨B, 0, none⟩ = some (.bool x.1)
 x1 : W.cell? ⟨B, 1, none⟩ = some (.slice x.2.1 x.2.2.2.length x.2.2.1)
 y0 : W.cell? ⟨B + 1, 0, none⟩ = some (.bool y.1)
 y1 : W.cell? ⟨B + 1, 1, none⟩ = some (.slice y.2.1 y.2.2.2.length y.2.2.1)
 ux : Us W x.2.1 x.2.2.1 x.2.2.2
 uy : Us W y.2.1 y.2.2.1 y.2.2.2
theorem PB.next {w : World} {B : Nat} {x y : Bool × Option Addr × Nat × List Nat} {W W1 : World} (h : PB w B x y W) (k : Below W.heap.size W W1) : PB w B x y W1 :=
 ⟨h.b.trans (k.mono h.b.size), h.lw, Nat.lt_of_lt_of_le h.lt k.size, (k.cell (p := ⟨B, 0, none⟩) (by have := h.lt; show B < _; omega)).trans h.x0, (k.cell (p := ⟨B, 1, none⟩) (by have := h.lt; show B < _; omega)).trans h.x1,
  (k.cell (p := ⟨B + 1, 0, none⟩) h.lt).trans h.y0, (k.cell (p := ⟨B + 1, 1, none⟩) h.lt).trans h.y1, h.ux.below k, h.uy.below k⟩
theorem PB.new (w : World) (s t : Bool) (A B : Option Addr) (c d : Nat) (xs ys : List Nat) (h : Us w A c xs) (k : Us w B d ys) :
  PB w w.heap.size (s, A, c, xs) (t, B, d, ys) ((w.alloc (.cells #[.bool s, .slice A xs.length c] 25)).alloc (.cells #[.bool t, .slice B ys.length d] 25)) := by
 obtain ⟨e1, e2, e3⟩ := box2 w (.bool s) (.slice A xs.length c) (.bool t) (.slice B ys.length d) 25
 exact ⟨e3, Nat.le_refl _, by simp, e1.1, e1.2.1, e2.1, e2.2.1, h.below e3, k.below e3⟩
theorem ordI_lt {a b : Int} : decide (ordI a b < 0) = decide (a < b) := by
 unfold ordI
 split
 ·
  rename_i h; rw [decide_eq_true h]; rfl
 ·
  rename_i h
  rw [decide_eq_false h]
  split <;> rfl
theorem ordI_ge {a b : Int} : decide (ordI a b ≥ 0) = decide (b ≤ a) := by
 unfold ordI
 split
 ·
  rename_i h; rw [decide_eq_false (by omega), decide_eq_false (by omega)]
 ·
  rename_i h
  rw [decide_eq_true (show b ≤ a by omega)]
  split <;> rfl
def inH (x h : Int) : Bool := decide (x < h) && decide (-h ≤ x)
end Go.Proofs.Ytdmkiioimmmlbaa

namespace Go.Proofs.Ytdmkiioimmmlbaa
set_option maxRecDepth 100000
set_option linter.unusedVariables false
set_option linter.unusedSimpArgs false
open Go.RowKit Nds Num
def inL (c : Cl) (lv : Nat) : Bool := inH c.x (p2 (lv - 1)) && inH c.y (p2 (lv - 1))
theorem us_off {w : World} {A : Option Addr} {c : Nat} {xs : List Nat} (h : Us w A c xs) {g : Nat} (hg : ∀ o v, w.cell? ⟨g, o, none⟩ = some v → ∀ k, v ≠ .int .u32 k) : 0 < xs.length → ∀ a, A = some a → a.block ≠ g := fun hx a e he => by
 obtain ⟨b, off, e', hb, hc⟩ := h.at_ hx
 rw [e] at e'
 cases e'
 dsimp only at he
 subst he
 exact hg _ _ (hc 0 hx) _ rfl
structure HX (W : World) (g : Nat) (s : Bool) (A : Option Addr) (c : Nat) (xs : List Nat) (n : Int) : Prop where
 box : W.heap[g]? = some (.cells #[.bool s, .slice A xs.length c] 25)
 us : Us W A c xs
 cn : CanonI s xs
 v : ival s xs = n
 off : 0 < xs.length → ∀ a, A = some a → a.block ≠ g
theorem HX.lt {W : World} {g : Nat} {s : Bool} {A : Option Addr} {c : Nat} {xs : List Nat} {n : Int} (h : HX W g s A c xs n) : g < W.heap.size := (Array.getElem?_eq_some_iff.1 h.box).1
theorem HX.c0 {W : World} {g : Nat} {s : Bool} {A : Option Addr} {c : Nat} {xs : List Nat} {n : Int} (h : HX W g s A c xs n) : W.cell? ⟨g, 0, none⟩ = some (.bool s) := by
 rw [cell_of_row W g _ _ _ _ h.box]; rfl
theorem HX.c1 {W : World} {g : Nat} {s : Bool} {A : Option Addr} {c : Nat} {xs : List Nat} {n : Int} (h : HX W g s A c xs n) : W.cell? ⟨g, 1, none⟩ = some (.slice A xs.length c) := by
 rw [cell_of_row W g _ _ _ _ h.box]; rfl
theorem HX.free {W : World} {g : Nat} {s : Bool} {A : Option Addr} {c : Nat} {xs : List Nat} {n : Int} (h : HX W g s A c xs n) (k : Nat) : W.frozen? ⟨g, k, none⟩ = false := frozen_of_row W g k _ _ h.box
theorem HX.next {W W1 : World} {g : Nat} {s : Bool} {A : Option Addr} {c : Nat} {xs : List Nat} {n : Int} (h : HX W g s A c xs n) (k : Below W.heap.size W W1) : HX W1 g s A c xs n :=
 ⟨(k.block g h.lt).trans h.box, h.us.below k, h.cn, h.v, h.off⟩
theorem bool_cell {W : World} {g : Nat} {s : Bool} {A : Option Addr} {n c : Nat} (h : W.heap[g]? = some (.cells #[.bool s, .slice A n c] 25)) : ∀ o v, W.cell? ⟨g, o, none⟩ = some v → ∀ k, v ≠ .int .u32 k := fun o v hv k e => by
 subst e
 rw [cell_of_row W g _ _ _ _ h] at hv
 match o with
 | 0 => simp at hv
 | 1 => simp at hv
 | o + 2 => simp at hv
theorem HX.set {W : World} {g : Nat} {s s2 : Bool} {A A2 : Option Addr} {c c2 : Nat} {xs ys : List Nat} {n m : Int} (h : HX W g s A c xs n) (hu : Us W A2 c2 ys) (hc : CanonI s2 ys) (hv : ival s2 ys = m) :
  HX ((W.setCell ⟨g, 0, none⟩ (.bool s2)).setCell ⟨g, 1, none⟩ (.slice A2 ys.length c2)) g s2 A2 c2 ys m := by
 have ho := us_off hu (bool_cell h.box)
 have hk : ∀ k, k < W.heap.size → k ≠ g → ((W.setCell ⟨g, 0, none⟩ (.bool s2)).setCell ⟨g, 1, none⟩ (.slice A2 ys.length c2)).heap[k]? = W.heap[k]? := fun k _ hk =>
  (Below.heap_setCell _ _ _ _ hk).trans (Below.heap_setCell _ _ _ _ hk)
 exact ⟨heap_setCell_same _ g 1 _ _ _ (heap_setCell_same W g 0 _ _ _ h.box), us_kept hu hk (by simp [World.setCell]) ho, hc, hv, ho⟩
end Go.Proofs.Ytdmkiioimmmlbaa

namespace Go.Proofs.Ytdmkiioimmmlbaa
set_option maxRecDepth 100000
set_option linter.unusedVariables false
set_option linter.unusedSimpArgs false
open Go.RowKit Nds Num
theorem pow_p2 (n : Nat) (h : n ≤ 1330) : shlI 1 (n : Int) = p2 n := by
 unfold shlI p2
 rw [if_pos (by omega), Int.toNat_natCast, Int.one_mul]
structure WI (w : World) (v : Cv) (g h : Nat) (s : Bool) (A : Option Addr) (c : Nat) (xs : List Nat) (t : Bool) (B : Option Addr) (d : Nat) (ys : List Nat) (n : Int) (W : World) : Prop where
 b : Below w.heap.size w W
 lt : w.heap.size < W.heap.size
 bv : CvAt W w.heap.size 0 v
 uv : CvU W v
 p : HX W g s A c xs n
 l : HX W h t B d ys (-n)
theorem WI.next {w : World} {v : Cv} {g h : Nat} {s : Bool} {A : Option Addr} {c : Nat} {xs : List Nat} {t : Bool} {B : Option Addr} {d : Nat} {ys : List Nat} {n : Int} {W W1 : World} (k : WI w v g h s A c xs t B d ys n W) (q : Below W.heap.size W W1) : WI w v g h s A c xs t B d ys n W1 :=
 ⟨k.b.trans (q.mono k.b.size), Nat.lt_of_lt_of_le k.lt q.size, k.bv.below (q.block _ k.lt), k.uv.below q, k.p.next q, k.l.next q⟩
end Go.Proofs.Ytdmkiioimmmlbaa
