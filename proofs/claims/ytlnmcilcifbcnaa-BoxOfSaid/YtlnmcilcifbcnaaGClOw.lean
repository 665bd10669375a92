/-
  a range over slices.Backward whose invariants may count draws; limb.trim and limb.Cmp, which draw no less.
  limb.Cmp and big.Cmp, which draw no less; a cell ahead of another one (cells.byPlace).
  cells.byPlace: by rows, then by columns; it turns nothing and takes no draw back.
  cells.at, parting, quarter, byQuarter.
  cells.byQuarter, cells.quarter.
  cells.quarter: in which quarter a cell is.
  slices.SortFunc over cells.
  slices.SortFunc over places of a list of cells: by byPlace, then by themselves (standing's closure).
  cells: what standing keeps, plain.
  cells: slices of cells that the call has made; append.
-/
import Derived.Test.YtlnmcilcifbcnaaGRound
import Derived.Test.YtlnmcilcifbcnaaGNdsW
import Derived.Test.YtlnmcilcifbcnaaGClM
import Derived.Test.YtlnmcilcifbcnaaGClZ
import Derived.Test.YtlnmcilcifbcnaaGLen32
import Derived.Test.YtlnmcilcifbcnaaRows
import Derived.Lib.Strings
import Derived.Lib.Slices
import Derived.Lib.Small
import Derived.Lib.Walk
import Derived.Lib.BitFns
import Derived.Deep.RegionWith
import Derived.Deep.RegionHeld3
import Derived.Test.YtlnmcilcifbcnaaGNcRO

set_option linter.unusedVariables false
set_option linter.unusedSimpArgs false
set_option maxRecDepth 100000
namespace Go.Proofs.Ytlnmcilcifbcnaa
open Go.RowKit Go.Shelf Num
attribute [local go_sem] Oper.semAt_some
structure Gro (w w' : World) : Prop where
 b : Below w.heap.size w w'
 d : w.drawn ≤ w'.drawn
theorem Gro.refl (w : World) : Gro w w := ⟨Below.refl _ _, Nat.le_refl _⟩
theorem Gro.trans {a b c : World} (h : Gro a b) (k : Gro b c) : Gro a c := ⟨h.b.trans (k.b.mono h.b.size), Nat.le_trans h.d k.d⟩
theorem Gro.alloc {a w : World} (h : Gro a w) (o : Obj) : Gro a (w.alloc o) := h.trans ⟨(Below.refl _ w).alloc (Nat.le_refl _) o, Nat.le_refl _⟩
theorem Gro.drewN {a w : World} (h : Gro a w) (n : Nat) : Gro a (w.drewN n) := h.trans ⟨below_drewN (Below.refl _ _) n, Nat.le_add_right _ _⟩
structure Marks {β : Type} (B : Nat) (I : β → World → Prop) : Prop where
 lay : ∀ s W (o : Obj), I s W → o.isCells = false → I s (W.alloc o)
 put : ∀ s W l (o o' : Obj), I s W → B ≤ l → W.heap[l]? = some o → o.isCells = false → I s (W.putObj l o')
theorem Marks.and {β : Type} {B : Nat} {I I' : β → World → Prop} (h : Marks B I) (k : Marks B I') : Marks B (fun s W => I s W ∧ I' s W) :=
 ⟨fun s W o hs ho => ⟨h.lay s W o hs.1 ho, k.lay s W o hs.2 ho⟩, fun s W l o o' hs hB hl ho => ⟨h.put s W l o o' hs.1 hB hl ho, k.put s W l o o' hs.2 hB hl ho⟩⟩
theorem Gro.put {a W : World} (h : Gro a W) {l : Nat} {o : Obj} (o' : Obj) (hl : a.heap.size ≤ l) (ho : W.heap[l]? = some o) : Gro a (W.putObj l o') :=
 ⟨h.b.grown (grownBy_putObj' W l o') h.b.size (fun k e => by cases e; exact hl), h.d⟩
theorem Gro.setCell {a W : World} (h : Gro a W) {p : Addr} (hp : a.heap.size ≤ p.block) (u : Value) : Gro a (W.setCell p u) := ⟨h.b.setCell hp u, h.d⟩
end Go.Proofs.Ytlnmcilcifbcnaa

namespace Go.Proofs.Ytlnmcilcifbcnaa
open Go.RowKit Go.Shelf Num Nds
attribute [local go_sem] Oper.semAt_some
structure CmpStG (w W0 : World) (v : Value) (W : World) : Prop where
 size : W0.heap.size = w.heap.size + 2
 cell : W.cell? ⟨w.heap.size, 0, none⟩ = some v
 free : W.frozen? ⟨w.heap.size, 0, none⟩ = false
 cellR : W.cell? ⟨w.heap.size + 1, 0, none⟩ = some (.int .i64 0)
 freeR : W.frozen? ⟨w.heap.size + 1, 0, none⟩ = false
 b : Gro W0 W
 base : Gro w W0
theorem CmpStG.next {w W0 W W1 : World} {v : Value} (h : CmpStG w W0 v W) (hg : Gro W W1) : CmpStG w W0 v W1 :=
 have l0 := lt_of_cell h.cell
 have l1 := lt_of_cell h.cellR
 have hb := hg.b
 ⟨h.size, (hb.cell (p := ⟨w.heap.size, 0, none⟩) l0).trans h.cell, (hb.frozen (p := ⟨w.heap.size, 0, none⟩) l0).trans h.free, (hb.cell (p := ⟨w.heap.size + 1, 0, none⟩) l1).trans h.cellR, (hb.frozen (p := ⟨w.heap.size + 1, 0, none⟩) l1).trans h.freeR,
  h.b.trans hg, h.base⟩
end Go.Proofs.Ytlnmcilcifbcnaa

namespace Go.Proofs.Ytlnmcilcifbcnaa
open Go.RowKit Nds
def CvR (v : Cv) : Prop := CanonI v.sx v.xs ∧ CanonI v.sy v.ys ∧ v.xs.length ≤ 60000 ∧ v.ys.length ≤ 60000
end Go.Proofs.Ytlnmcilcifbcnaa

namespace Go.Proofs.Ytlnmcilcifbcnaa
open Go.RowKit Nds Num
structure TwoB (w : World) (B : Nat) (x y : Bool × Option Addr × Nat × List Nat) (W : World) : Prop where
 g : Gro w W
 lt : B + 1 < W.heap.size
 x0 : W.cell? ⟨B, 0, none⟩ = some (.bool x.1)
 x1 : W.cell? ⟨B, 1, none⟩ = some (.slice x.2.1 x.2.2.2.length x.2.2.1)
 y0 : W.cell? ⟨B + 1, 0, none⟩ = some (.bool y.1)
 y1 : W.cell? ⟨B + 1, 1, none⟩ = some (.slice y.2.1 y.2.2.2.length y.2.2.1)
 ux : Us W x.2.1 x.2.2.1 x.2.2.2
 uy : Us W y.2.1 y.2.2.1 y.2.2.2
theorem TwoB.next {w : World} {B : Nat} {x y : Bool × Option Addr × Nat × List Nat} {W W1 : World} (h : TwoB w B x y W) (k : Gro W W1) : TwoB w B x y W1 :=
 ⟨h.g.trans k, Nat.lt_of_lt_of_le h.lt k.b.size, (k.b.cell (p := ⟨B, 0, none⟩) (by have := h.lt; show B < _; omega)).trans h.x0, (k.b.cell (p := ⟨B, 1, none⟩) (by have := h.lt; show B < _; omega)).trans h.x1,
  (k.b.cell (p := ⟨B + 1, 0, none⟩) h.lt).trans h.y0, (k.b.cell (p := ⟨B + 1, 1, none⟩) h.lt).trans h.y1, h.ux.below k.b, h.uy.below k.b⟩
theorem TwoB.drew {w : World} {B : Nat} {x y : Bool × Option Addr × Nat × List Nat} {W : World} (h : TwoB w B x y W) : TwoB w B x y W.drew := h.next ((Gro.refl W).drewN 1)
end Go.Proofs.Ytlnmcilcifbcnaa

namespace Go.Proofs.Ytlnmcilcifbcnaa
open Go.RowKit Nds Num
structure CS (w : World) (B : Nat) (v u : Cv) (W : World) : Prop where
 g : Gro w W
 lt : B + 1 < W.heap.size
 bv : CvAt W B 0 v
 bu : CvAt W (B + 1) 0 u
 uv : CvU W v
 uu : CvU W u
theorem CS.next {w : World} {B : Nat} {v u : Cv} {W W1 : World} (h : CS w B v u W) (k : Gro W W1) : CS w B v u W1 :=
 ⟨h.g.trans k, Nat.lt_of_lt_of_le h.lt k.b.size, h.bv.below (k.b.block _ (by have := h.lt; omega)), h.bu.below (k.b.block _ h.lt), h.uv.below k.b, h.uu.below k.b⟩
theorem CS.new (w : World) (v u : Cv) (h : CvU w v) (k : CvU w u) (t : TypeId) : CS w w.heap.size v u ((w.alloc (.cells #[.bool v.sx, .slice v.ax v.xs.length v.cx, .bool v.sy, .slice v.ay v.ys.length v.cy, .int .u8 v.st] t)).alloc (.cells #[.bool u.sx, .slice u.ax u.xs.length u.cx, .bool u.sy, .slice u.ay u.ys.length u.cy, .int .u8 u.st] t)) := by
 have hg : Gro w ((w.alloc (.cells #[.bool v.sx, .slice v.ax v.xs.length v.cx, .bool v.sy, .slice v.ay v.ys.length v.cy, .int .u8 v.st] t)).alloc (.cells #[.bool u.sx, .slice u.ax u.xs.length u.cx, .bool u.sy, .slice u.ay u.ys.length u.cy, .int .u8 u.st] t)) := ((Gro.refl w).alloc _).alloc _
 refine ⟨hg, by simp, (CvAt.new w v _).below (Below.heap_alloc _ _ _ (by simp)), ?_, h.below hg.b, k.below hg.b⟩
 have h1 := CvAt.new (w.alloc (.cells #[.bool v.sx, .slice v.ax v.xs.length v.cx, .bool v.sy, .slice v.ay v.ys.length v.cy, .int .u8 v.st] t)) u t
 rwa [show (w.alloc (.cells #[.bool v.sx, .slice v.ax v.xs.length v.cx, .bool v.sy, .slice v.ay v.ys.length v.cy, .int .u8 v.st] t)).heap.size = w.heap.size + 1 by simp] at h1
end Go.Proofs.Ytlnmcilcifbcnaa

namespace Go.Proofs.Ytlnmcilcifbcnaa
open Go.RowKit Nds Num
structure C1 (w : World) (v : Cv) (W : World) : Prop where
 g : Gro w W
 lt : w.heap.size < W.heap.size
 bv : CvAt W w.heap.size 0 v
 uv : CvU W v
theorem C1.next {w : World} {v : Cv} {W W1 : World} (h : C1 w v W) (k : Gro W W1) : C1 w v W1 :=
 ⟨h.g.trans k, Nat.lt_of_lt_of_le h.lt k.b.size, h.bv.below (k.b.block _ h.lt), h.uv.below k.b⟩
end Go.Proofs.Ytlnmcilcifbcnaa

namespace Go.Proofs.Ytlnmcilcifbcnaa
open Go.RowKit Nds Num
def encC (v : Cv) : List Value := [.bool v.sx, .slice v.ax v.xs.length v.cx, .bool v.sy, .slice v.ay v.ys.length v.cy, .int .u8 v.st]
def Off (blk : Nat) (v : Cv) : Prop := (0 < v.xs.length → ∀ a, v.ax = some a → a.block ≠ blk) ∧ (0 < v.ys.length → ∀ a, v.ay = some a → a.block ≠ blk)
theorem us_kept {w w' : World} {blk : Nat} {A : Option Addr} {c : Nat} {xs : List Nat} (h : Us w A c xs) (hk : ∀ k, k < w.heap.size → k ≠ blk → w'.heap[k]? = w.heap[k]?) (hs : w.heap.size ≤ w'.heap.size) (ha : 0 < xs.length → ∀ a, A = some a → a.block ≠ blk) : Us w' A c xs := by
 obtain ⟨h1, h2, h3, h4⟩ := h
 refine ⟨h1, h2, h3, fun hn => ?_⟩
 obtain ⟨b, off, e, hb, hc⟩ := h4 hn
 have hne : b ≠ blk := ha (by simpa using hn) _ e
 exact ⟨b, off, e, Nat.lt_of_lt_of_le hb hs, fun j u hu => (World.cell?_of_block (a := ⟨b, off + j, none⟩) (hk b hb hne)).trans (hc j u hu)⟩
theorem cvU_kept {w w' : World} {blk : Nat} {v : Cv} (h : CvU w v) (hk : ∀ k, k < w.heap.size → k ≠ blk → w'.heap[k]? = w.heap[k]?) (hs : w.heap.size ≤ w'.heap.size) (ho : Off blk v) : CvU w' v :=
 ⟨us_kept h.1 hk hs ho.1, us_kept h.2.1 hk hs ho.2, h.2.2⟩
theorem us_lt {w : World} {A : Option Addr} {c : Nat} {xs : List Nat} (h : Us w A c xs) (hx : 0 < xs.length) : ∀ a, A = some a → a.block < w.heap.size := fun a e => by
 obtain ⟨b, off, e', hb, _⟩ := h.at_ hx
 rw [e] at e'
 cases e'
 exact hb
theorem gbN {w w' : World} (h : Below w.heap.size w w') : w.grownBy w' none := ⟨h.os, h.tape, h.output, h.size, fun k hk _ => h.block k hk⟩
theorem encC_one (v : Cv) : ∀ x ∈ encC v, x.oneCell' = true := by
 intro x hx
 simp only [encC, List.mem_cons, List.not_mem_nil, or_false] at hx
 rcases hx with rfl | rfl | rfl | rfl | rfl <;> rfl
theorem cat_get {l : List Cv} {i : Nat} (h : i < l.length) : cat l i = l[i] := by
 unfold cat
 rw [List.getElem?_eq_getElem h]
 rfl
end Go.Proofs.Ytlnmcilcifbcnaa

namespace Go.Proofs.Ytlnmcilcifbcnaa
open Go.RowKit Nds Num
theorem ordI_neg {a b : Int} : ordI a b < 0 ↔ a < b := by
 unfold ordI
 split
 ·
  constructor <;> intro <;> omega
 ·
  split
  ·
   constructor <;> intro <;> omega
  ·
   constructor <;> intro <;> omega
theorem ordI_zero {a b : Int} : ordI a b = 0 ↔ a = b := by
 unfold ordI
 split
 ·
  constructor <;> intro <;> omega
 ·
  split
  ·
   constructor <;> intro <;> omega
  ·
   constructor <;> intro <;> omega
end Go.Proofs.Ytlnmcilcifbcnaa

namespace Go.Proofs.Ytlnmcilcifbcnaa
open Nds
def atP (c : Cl) (x y : Int) : Prop := c.x = x ∧ c.y = y
instance (c : Cl) (x y : Int) : Decidable (atP c x y) := by unfold atP; infer_instance
end Go.Proofs.Ytlnmcilcifbcnaa

namespace Go.Proofs.Ytlnmcilcifbcnaa
open Go.RowKit Nds
theorem Try.infoC : (Try.prog.info? 27).map (fun i => (i.zero, i.size, i.bytes)) = some (some (cvv cv0), 5, 72) := by kernel_rfl
def cvcs (l : List Cv) : List Value := l.flatMap encC
theorem cvcs_len (l : List Cv) : (cvcs l).length = l.length * 5 := by
 unfold cvcs
 induction l with
 | nil => rfl
 | cons x l ih =>
  rw [List.flatMap_cons, List.length_append, ih, List.length_cons]
  show 5 + _ = _
  omega
theorem cvcs_app (l m : List Cv) : cvcs (l ++ m) = cvcs l ++ cvcs m := by
 unfold cvcs
 rw [List.flatMap_append]
theorem cvcs_at : ∀ (l : List Cv) (i j : Nat), i < l.length → j < 5 → (cvcs l)[i * 5 + j]? = (encC (cat l i))[j]?
 | [], i, _, hi, _ => by simp at hi
 | x :: l, 0, j, _, hj => by
  show (encC x ++ cvcs l)[0 * 5 + j]? = _
  rw [List.getElem?_append_left (by show _ < 5; omega), show 0 * 5 + j = j by omega]
  rfl
 | x :: l, i + 1, j, hi, hj => by
  show (encC x ++ cvcs l)[(i + 1) * 5 + j]? = _
  rw [List.getElem?_append_right (by show 5 ≤ _; omega), show (i + 1) * 5 + j - (encC x).length = i * 5 + j by show _ - 5 = _; omega, cvcs_at l i j (by simpa using hi) hj]
  rfl
theorem cvcs_one (l : List Cv) : ∀ u ∈ cvcs l, u.oneCell' = true := fun u hu => by
 obtain ⟨x, _, hx⟩ := List.mem_flatMap.1 hu
 exact encC_one x u hx
def OwnC (w : World) (base : Nat) (v : Value) (l : List Cv) : Prop := w.ownsRow base 27 5 v l.length (cvcs l)
theorem OwnC.shape {w : World} {base : Nat} {v : Value} {l : List Cv} (h : OwnC w base v l) :
  ∃ A c, v = .slice A l.length c ∧ l.length ≤ c ∧ c ≤ maxLen ∧ (A = none → c = 0 ∧ l = []) ∧ (∀ a, A = some a → ∃ g, a = ⟨g, 0, none⟩ ∧ base ≤ g ∧ g < w.heap.size ∧ (∀ i, i < l.length → CvAt w g (i * 5) (cat l i)) ∧ ∀ o, w.frozen? ⟨g, o, none⟩ = false) := by
 rcases h.2 with ⟨h', hn⟩ | ⟨g, cap, cur, h', hb, hg, hnc, hcm, hcs, htake⟩
 ·
  refine ⟨none, 0, by rw [h', hn], by omega, by simp [maxLen], fun _ => ⟨rfl, List.eq_nil_of_length_eq_zero hn⟩, (fun a e => by cases e)⟩
 ·
  refine ⟨some ⟨g, 0, none⟩, cap, h', hnc, hcm, (fun e => by cases e), fun a e => ?_⟩
  cases e
  have hlt : g < w.heap.size := by
   rcases Nat.lt_or_ge g w.heap.size with hlt | hge
   ·
    exact hlt
   ·
    rw [Array.getElem?_eq_none hge] at hg; cases hg
  refine ⟨g, rfl, hb, hlt, fun i hi => ?_, fun o => frozen_of_row _ _ _ _ _ hg⟩
  have hcell : ∀ j, j < 5 → w.cell? ⟨g, i * 5 + j, none⟩ = (encC (cat l i))[j]? := by
   intro j hj
   have hlt : i * 5 + j < l.length * 5 := by omega
   rw [cell_of_row w g (i * 5 + j) cur _ (0, 0) hg, ← cvcs_at l i j hi hj, ← htake, List.getElem?_take, if_pos hlt]
   simp
  exact ⟨hcell 0 (by omega), hcell 1 (by omega), hcell 2 (by omega), hcell 3 (by omega), hcell 4 (by omega)⟩
theorem OwnC.nil (w : World) (base : Nat) : OwnC w base (.slice none 0 0) [] := World.ownsRow_nil w base _ 5
theorem OwnC.kept {w w' : World} {base : Nat} {v : Value} {l : List Cv} {row : Option Nat} (h : OwnC w base v l) (hg : w.grownBy w' row) (hv : v.ownBlock = none ∨ v.ownBlock ≠ row) : OwnC w' base v l := World.ownsRow.kept h hg hv
theorem OwnC.alloc {w : World} {base : Nat} {v : Value} {l : List Cv} (h : OwnC w base v l) (o : Obj) : OwnC (w.alloc o) base v l := h.kept (World.grownBy_alloc w o none) (by cases v.ownBlock <;> simp)
theorem OwnC.lt {w : World} {base : Nat} {v : Value} {l : List Cv} (h : OwnC w base v l) : ∀ k, v.ownBlock = some k → base ≤ k ∧ k < w.heap.size := World.ownsRow.lt h
theorem OwnC.cs {w : World} {base : Nat} {v : Value} {l : List Cv} (h : OwnC w base v l) (hu : ∀ x ∈ l, CvU w x) : ∃ A c, v = .slice A l.length c ∧ Cs w A c l ∧ (A = none → c = 0) ∧ ∀ a, A = some a → base ≤ a.block := by
 obtain ⟨A, c, h1, h2, h3, h4, h5⟩ := h.shape
 refine ⟨A, c, h1, ⟨hu, h2, h3, fun hn => ?_⟩, fun e => (h4 e).1, fun a e => ?_⟩
 ·
  cases A with
  | none => have := (h4 rfl).2; subst this; exact absurd hn (Nat.lt_irrefl 0)
  | some a =>
   obtain ⟨g, rfl, hg, hlt, hc, _⟩ := h5 a rfl
   exact ⟨g, 0, rfl, hlt, fun i hi => by rw [Nat.zero_add]; exact hc i hi⟩
 ·
  obtain ⟨g, rfl, hg, _⟩ := h5 a e
  exact hg
theorem cell_box (w : World) (x : Cv) : ∀ j u, (cvcs [x])[j]? = some u → (w.alloc (.cells #[.bool x.sx, .slice x.ax x.xs.length x.cx, .bool x.sy, .slice x.ay x.ys.length x.cy, .int .u8 x.st] 27)).cell? ((⟨w.heap.size, 0, none⟩ : Addr).add j) = some u := by
 intro j u hu
 have hj := (List.getElem?_eq_some_iff.1 hu).1
 rw [cvcs_len] at hj
 obtain ⟨h0, h1, h2, h3, h4⟩ := CvAt.new w x 27
 rw [Nat.zero_add] at h1 h2 h3 h4
 have hj5 : j < 5 := by simpa using hj
 have hadd : (⟨w.heap.size, 0, none⟩ : Addr).add j = ⟨w.heap.size, j, none⟩ := by
  unfold Addr.add
  split
  ·
   rename_i h; subst h; rfl
  ·
   simp
 rw [hadd]
 match j, hj5 with
 | 0, _ => rw [h0]; exact hu
 | 1, _ => rw [h1]; exact hu
 | 2, _ => rw [h2]; exact hu
 | 3, _ => rw [h3]; exact hu
 | 4, _ => rw [h4]; exact hu
theorem run_append_cells (w : World) (base : Nat) (v : Value) (xs ys : List Cv) (ty : TypeId) (ad : Addr) (m c : Nat) (how : OwnC w base v xs) (hN : ∀ j u, (cvcs ys)[j]? = some u → w.cell? (ad.add j) = some u) (hm : ys.length = m) (hs : xs.length + m ≤ 1000000) (hb : base ≤ w.heap.size) :
  ∃ v' w', (Builtin.append_ #[22, 22] ty #[v, .slice (some ad) m c]).run Try.prog w = .ok v' w' ∧ OwnC w' base v' (xs ++ ys) ∧ w.grownBy w' v.ownBlock ∧ (v'.ownBlock = v.ownBlock ∨ v'.ownBlock = some w.heap.size) := by
 obtain ⟨i0, hi, hz0, hz1, hz2⟩ := info_parts Try.infoC
 obtain ⟨v', w', hrun, h2, h3, _, h5⟩ := run_append_own_at (P := Try.prog) w base 22 ty 27 i0 (cvv cv0) 5 72 Try.underlying22 hi hz0 hz1 hz2 rfl (by omega) v xs.length (cvcs xs) how ad m c (cvcs ys) (by rw [cvcs_len, hm]) hN (cvcs_one ys) (by simp only [maxLen]; omega) (by omega) hb
 refine ⟨v', w', hrun, ?_, h3, h5⟩
 unfold OwnC
 rw [cvcs_app, List.length_append, hm]
 exact h2
theorem wpList_append_cell (w : World) {ops : Array Oper} {rest : List Oper} {o : Oper} {a : Act} {Q : Exit → Act → World → Prop} (hg : o.guard = none) (s x : Operand)
  (hop : o.op = Op.call { callee := Callee.builtin Builtin.append, args := #[s, x], argTypes := #[22, 22] }) (base : Nat) (v : Value) (xs : List Cv) (y : Cv) (ad : Addr) (c : Nat)
  (hs : a.eval s = v) (hx : a.eval x = .slice (some ad) 1 c) (how : OwnC w base v xs) (hN : ∀ j u, (cvcs [y])[j]? = some u → w.cell? (ad.add j) = some u) (hsz : xs.length + 1 ≤ 1000000) (hb : base ≤ w.heap.size)
  (hK : ∀ v' w', OwnC w' base v' (xs ++ [y]) → w.grownBy w' v.ownBlock → (v'.ownBlock = v.ownBlock ∨ v'.ownBlock = some w.heap.size) → wpList Try.prog ops Q rest (a.put o.dst v') w') :
  wpList Try.prog ops Q (o :: rest) a w := by
 refine wpList_plain hg fun K hK' => ?_
 obtain ⟨v', w', hrun, h1, h2, h3⟩ := run_append_cells w base v xs [y] o.type ad 1 c how hN rfl hsz hb
 unfold Oper.wp execOp
 simp only [hop, resolve, invoke, builtin, Sem.run_bind, Sem.run_pure, Result.andThen_ok, List.map_toArray, List.map_cons, List.map_nil, hs, hx, hrun]
 exact hK' _ _ (hK v' w' h1 h2 h3)
end Go.Proofs.Ytlnmcilcifbcnaa
