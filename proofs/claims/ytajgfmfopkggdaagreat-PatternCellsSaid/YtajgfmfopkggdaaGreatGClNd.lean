/-
  cells.standing: the cells that aren't overwritten, nor 0, in order.
  cells: the builder's number of a node: known, or put behind the others.
  cells: the tree of a list of cells, by quarters; plain.
  cells: how a builder's node goes through the quarters of its cells; plain.
  cells: the builder's node: quarter by quarter.
-/
import Derived.Test.YtajgfmfopkggdaaGreatGClWi
import Derived.Test.YtajgfmfopkggdaaGreatGNcPB
import Derived.Deep.QuietTactic
import Derived.BigQuiet
import Derived.Test.YtajgfmfopkggdaaGreatGNcOr
import Derived.Deep.RegionHeld3
import Derived.Test.YtajgfmfopkggdaaGreatGClK2
import Derived.Test.YtajgfmfopkggdaaGreatGNcRS

set_option linter.unusedVariables false
set_option linter.unusedSimpArgs false
set_option maxRecDepth 100000
namespace Go.Proofs.YtajgfmfopkggdaaGreat
open Go.RowKit Nds Num Go.Shelf
theorem OwnC.mono {w : World} {base base' : Nat} {v : Value} {l : List Cv} (h : OwnC w base v l) (hb : base' ≤ base) : OwnC w base' v l := by
 refine ⟨h.1, ?_⟩
 rcases h.2 with h | ⟨g, cap, cur, e, hb', rest⟩
 ·
  exact .inl h
 ·
  exact .inr ⟨g, cap, cur, e, by omega, rest⟩
end Go.Proofs.YtajgfmfopkggdaaGreat

namespace Go.Proofs.YtajgfmfopkggdaaGreat
open Go.RowKit Nds
structure Bd (W : World) (base bb bm : Nat) (v : Value) (out : List Nd) : Prop where
 bx : W.heap[bb]? = some (.cells #[v, .map (some bm)] 156)
 o : OwnN W base v out
 k : KM W bm out
theorem Bd.c0 {W : World} {base bb bm : Nat} {v : Value} {out : List Nd} (h : Bd W base bb bm v out) : W.cell? ⟨bb, 0, none⟩ = some v := by
 rw [cell_of_row W bb _ _ _ _ h.bx]; rfl
theorem Bd.c1 {W : World} {base bb bm : Nat} {v : Value} {out : List Nd} (h : Bd W base bb bm v out) : W.cell? ⟨bb, 1, none⟩ = some (.map (some bm)) := by
 rw [cell_of_row W bb _ _ _ _ h.bx]; rfl
theorem Bd.free {W : World} {base bb bm : Nat} {v : Value} {out : List Nd} (h : Bd W base bb bm v out) (k : Nat) : W.frozen? ⟨bb, k, none⟩ = false := frozen_of_row W bb k _ _ h.bx
theorem Bd.lt {W : World} {base bb bm : Nat} {v : Value} {out : List Nd} (h : Bd W base bb bm v out) : bb < W.heap.size := (Array.getElem?_eq_some_iff.1 h.bx).1
theorem Bd.next {W W1 : World} {base bb bm : Nat} {v : Value} {out : List Nd} (h : Bd W base bb bm v out) (k : Below W.heap.size W W1) : Bd W1 base bb bm v out :=
 ⟨(k.block bb h.lt).trans h.bx, h.o.gbr ⟨k.os, k.tape, k.output, k.size, fun i hi _ => k.block i hi⟩ (row := none) (by cases v.ownBlock <;> simp), h.k.stay (k.block bm h.k.lt)⟩
def BdP (bb bm : Nat) (v : Value) : Nat → Prop := fun k => k = bb ∨ k = bm ∨ v.ownBlock = some k
structure Bd_ (W : World) (base bb bm : Nat) (v : Value) (out : List Nd) (x : Nd) : Prop where
 bx : W.heap[bb]? = some (.cells #[v, .map (some bm)] 156)
 o : OwnN W base v (out ++ [x])
 k : KM W bm out
theorem Bd_.c0 {W : World} {base bb bm : Nat} {v : Value} {out : List Nd} {x : Nd} (h : Bd_ W base bb bm v out x) : W.cell? ⟨bb, 0, none⟩ = some v := by
 rw [cell_of_row W bb _ _ _ _ h.bx]; rfl
theorem Bd_.c1 {W : World} {base bb bm : Nat} {v : Value} {out : List Nd} {x : Nd} (h : Bd_ W base bb bm v out x) : W.cell? ⟨bb, 1, none⟩ = some (.map (some bm)) := by
 rw [cell_of_row W bb _ _ _ _ h.bx]; rfl
theorem Bd_.lt {W : World} {base bb bm : Nat} {v : Value} {out : List Nd} {x : Nd} (h : Bd_ W base bb bm v out x) : bb < W.heap.size := (Array.getElem?_eq_some_iff.1 h.bx).1
end Go.Proofs.YtajgfmfopkggdaaGreat

namespace Go.Proofs.YtajgfmfopkggdaaGreat
open Nds Num
def Cv.cn (v : Cv) : Cl := ⟨(val v.xs : Nat), (val v.ys : Nat), v.st⟩
def inQ (m i : Nat) (v : Cv) : Bool := quaC v m == i
def treeZ : Nat → List Cv → Tr
 | 0, [] => .e
 | 0, v :: _ => .s v.st
 | m + 1, l => mk ((m : Int) + 1) (treeZ m (l.filter (inQ m 0))) (treeZ m (l.filter (inQ m 1))) (treeZ m (l.filter (inQ m 2))) (treeZ m (l.filter (inQ m 3)))
end Go.Proofs.YtajgfmfopkggdaaGreat

namespace Go.Proofs.YtajgfmfopkggdaaGreat
open Nds Num
def remQ (l : List Cv) (m j : Nat) : List Cv := l.filter fun v => decide (j ≤ quaC v m)
def fQ (m : Nat) (l : List Cv) (k : Nat) : Tr := treeZ m (l.filter (inQ m k))
end Go.Proofs.YtajgfmfopkggdaaGreat

namespace Go.Proofs.YtajgfmfopkggdaaGreat
open Go.RowKit Nds Num
theorem Cs.take {w : World} {A : Option Addr} {c : Nat} {l : List Cv} (h : Cs w A c l) (k : Nat) : Cs w A c (l.take k) := by
 refine ⟨fun v hv => h.1 v (List.mem_of_mem_take hv), by rw [List.length_take]; have := h.2.1; omega, h.2.2.1, fun hn => ?_⟩
 rw [List.length_take] at hn
 obtain ⟨b, off, e, hb, hc⟩ := h.2.2.2 (by omega)
 refine ⟨b, off, e, hb, fun i hi => ?_⟩
 rw [List.length_take] at hi
 have e1 : cat (l.take k) i = cat l i := by
  unfold cat
  rw [List.getElem?_take, if_pos (by omega)]
 rw [e1]
 exact hc i (by omega)
theorem Cs.drop {w : World} {b off c : Nat} {l : List Cv} (h : Cs w (some ⟨b, off, none⟩) c l) (k : Nat) (hk : k ≤ l.length) (A' : Option Addr) (hA : k < l.length → A' = some ⟨b, off + k * 5, none⟩) : Cs w A' (c - k) (l.drop k) := by
 have h1 := h.2.1
 refine ⟨fun v hv => h.1 v (List.mem_of_mem_drop hv), by rw [List.length_drop]; omega, by have := h.2.2.1; omega, fun hn => ?_⟩
 rw [List.length_drop] at hn
 obtain ⟨b2, off2, e, hb, hc⟩ := h.2.2.2 (by omega)
 cases e
 refine ⟨b, off + k * 5, hA (by omega), hb, fun i hi => ?_⟩
 rw [List.length_drop] at hi
 have e1 : cat (l.drop k) i = cat l (k + i) := by
  unfold cat
  rw [List.getElem?_drop]
 rw [e1, show off + k * 5 + i * 5 = off + (k + i) * 5 by omega]
 exact hc (k + i) (by omega)
end Go.Proofs.YtajgfmfopkggdaaGreat
