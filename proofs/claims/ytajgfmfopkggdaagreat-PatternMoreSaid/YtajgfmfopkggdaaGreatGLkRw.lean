/-
  look: the reference's Get.
-/
import Derived.Test.YtajgfmfopkggdaaGreatGLkRq
import Derived.Test.YtajgfmfopkggdaaGreatGLkGw

set_option linter.unusedVariables false
set_option linter.unusedSimpArgs false
set_option maxRecDepth 100000
namespace Go.Proofs.YtajgfmfopkggdaaGreat
open Go.RowKit Num Nds
structure GetI (q : List Nd) (R : Int) (j : Nat) (k X Y : Int) : Prop where
 fits : kidB q ((j : Int) + 1) k = true
 got : getF j q k X Y = R
 rx : 0 ≤ X ∧ X < p2 j
 ry : 0 ≤ Y ∧ Y < p2 j
theorem GetI.none {q : List Nd} {R : Int} {j : Nat} {X Y : Int} (h : GetI q R j 0 X Y) : R = 0 := by rw [← h.got, getF_zero]
theorem GetI.last {q : List Nd} {R k X Y : Int} (h : GetI q R 0 k X Y) : k = R := h.got
theorem GetI.some {q : List Nd} {R : Int} {j : Nat} {k X Y : Int} (h : GetI q R (j + 1) k X Y) : k = 0 ∨ ∃ p : Nat, k = (p : Int) + 1 ∧ p < q.length ∧ (at_ q p).lv = (j : Int) + 1 := by
 rcases kid_up (show (((j + 1 : Nat)) : Int) + 1 ≠ 1 by omega) h.fits with h | ⟨p, h, hp, hl⟩
 ·
  exact .inl h
 ·
  exact .inr ⟨p, h, hp, by omega⟩
theorem GetI.step {q : List Nd} (hq : looseB q = true) {R : Int} {j p : Nat} {X Y : Int} (hj : j ≤ 1328) (h : GetI q R (j + 1) ((p : Int) + 1) X Y) : GetI q R j ((at_ q p).kid (qtI (p2 j) X Y)) (subI (p2 j) X) (subI (p2 j) Y) := by
 obtain ⟨h1, h2, h3, h4⟩ := h
 obtain ⟨f1, f2, -⟩ := node_fit hq hj h1
 have hne : ¬ (p : Int) + 1 = 0 := by omega
 have e : nodeF j q ((p : Int) + 1) = at_ q p := by
  unfold nodeF
  rw [if_neg hne, show ((p : Int) + 1 - 1).toNat = p by omega]
 rw [e] at f1 f2
 have hlt := qtI_lt (p2 j) X Y
 have ep := p2_succ j
 refine ⟨?_, ?_, ?_, ?_⟩
 ·
  have := fit_kid f1 hlt
  rwa [f2] at this
 ·
  unfold getF at h2
  rw [if_neg hne, e] at h2
  exact h2
 ·
  unfold subI; split <;> omega
 ·
  unfold subI; split <;> omega
structure QG (w : World) (A : Option Addr) (c n : Nat) (q : List Nd) (u v : Bw) (X Y : Int) (W : World) : Prop where
 b : Below w.heap.size w W
 bq : W.heap[w.heap.size]? = some (.cells #[.slice A n c] 26)
 x : u.B W (w.heap.size + 1) X
 y : v.B W (w.heap.size + 1 + 1) Y
 ns : Ns W A c q
 old : 0 < n → ∀ a, A = some a → a.block < w.heap.size
theorem QG.next {w : World} {A : Option Addr} {c n : Nat} {q : List Nd} {u v : Bw} {X Y : Int} {W W1 : World} (h : QG w A c n q u v X Y W) (k : Below W.heap.size W W1) : QG w A c n q u v X Y W1 :=
 ⟨h.b.trans (k.mono h.b.size), (k.block _ (Array.getElem?_eq_some_iff.1 h.bq).1).trans h.bq, h.x.next k, h.y.next k, h.ns.below k, h.old⟩
theorem QG.set {w : World} {A : Option Addr} {c n : Nat} {q : List Nd} (hn : q.length = n) {u v : Bw} {X Y : Int} {W : World} (h : QG w A c n q u v X Y W) {a b : Bw} {X' Y' : Int} (ha : a.R W X') (hb : b.R W Y') :
  QG w A c n q a b X' Y' ((((W.setCell ⟨w.heap.size + 1, 0, none⟩ (.bool a.s)).setCell ⟨w.heap.size + 1, 1, none⟩ (.slice a.a a.xs.length a.c)).setCell ⟨w.heap.size + 1 + 1, 0, none⟩ (.bool b.s)).setCell ⟨w.heap.size + 1 + 1, 1, none⟩ (.slice b.a b.xs.length b.c)) := by
 have e1 : w.heap.size + 1 + 1 ≠ w.heap.size + 1 := by omega
 have e8 : ((W.setCell ⟨w.heap.size + 1, 0, none⟩ (.bool a.s)).setCell ⟨w.heap.size + 1, 1, none⟩ (.slice a.a a.xs.length a.c)).heap[w.heap.size + 1 + 1]? = some v.obj := ((Below.heap_setCell _ _ _ _ e1).trans (Below.heap_setCell _ _ _ _ e1)).trans h.y.box
 have x1 := ha.set h.x.box
 have y1 := (hb.stored h.x.box a).set e8
 have hB : Below w.heap.size W ((((W.setCell ⟨w.heap.size + 1, 0, none⟩ (.bool a.s)).setCell ⟨w.heap.size + 1, 1, none⟩ (.slice a.a a.xs.length a.c)).setCell ⟨w.heap.size + 1 + 1, 0, none⟩ (.bool b.s)).setCell ⟨w.heap.size + 1 + 1, 1, none⟩ (.slice b.a b.xs.length b.c)) :=
  (((Below.refl _ W).setCell (by show w.heap.size ≤ w.heap.size + 1; omega) _).setCell (by show w.heap.size ≤ w.heap.size + 1; omega) _ |>.setCell (by show w.heap.size ≤ w.heap.size + 1 + 1; omega) _).setCell (by show w.heap.size ≤ w.heap.size + 1 + 1; omega) _
 refine ⟨h.b.trans hB, ?_, x1.other e8 (by omega) b, y1, ?_, h.old⟩
 ·
  refine (Below.heap_setCell _ _ _ _ ?_).trans ((Below.heap_setCell _ _ _ _ ?_).trans ((Below.heap_setCell _ _ _ _ ?_).trans ((Below.heap_setCell _ _ _ _ ?_).trans h.bq))) <;> first | (show w.heap.size ≠ w.heap.size + 1; omega) | (show w.heap.size ≠ w.heap.size + 1 + 1; omega)
 ·
  by_cases h0 : 0 < n
  ·
   exact h.ns.belowB (h.old h0) hB
  ·
   exact ⟨h.ns.1, h.ns.2.1, h.ns.2.2.1, fun h1 => absurd h1 (by omega)⟩
theorem heapLt {W : World} {g : Nat} {o : Obj} (h : W.heap[g]? = some o) : g < W.heap.size := (Array.getElem?_eq_some_iff.1 h).1
theorem ns_cell {W : World} {bb off c p : Nat} {q : List Nd} (h : Ns W (some ⟨bb, off, none⟩) c q) (hp : p < q.length) : NdAt W bb (off + p * 5) (at_ q p) := by
 obtain ⟨b, o, e, -, hc⟩ := h.at_ (by omega)
 cases e
 exact hc p hp
theorem QG.cells {w : World} {bb off c n p j : Nat} {q : List Nd} {u v : Bw} {X Y : Int} {W : World} (h : QG w (some ⟨bb, off, none⟩) c n q u v X Y W) (hp : p < q.length) (hl : (at_ q p).lv = (j : Int) + 1) :
  W.cell? ⟨w.heap.size, 0, none⟩ = some (.slice (some ⟨bb, off, none⟩) n c) ∧ W.cell? ⟨bb, off + p * 5, none⟩ = some (.int .i64 ((j : Int) + 1)) ∧ W.cell? ⟨w.heap.size + 1, 0, none⟩ = some (.bool u.s) ∧ W.cell? ⟨w.heap.size + 1, 1, none⟩ = some (.slice u.a u.xs.length u.c) ∧ W.cell? ⟨w.heap.size + 1 + 1, 0, none⟩ = some (.bool v.s) ∧ W.cell? ⟨w.heap.size + 1 + 1, 1, none⟩ = some (.slice v.a v.xs.length v.c) := by
 refine ⟨one_cell h.bq, ?_, h.x.c0, h.x.c1, h.y.c0, h.y.c1⟩
 rw [← hl]
 exact (ns_cell h.ns hp).1
end Go.Proofs.YtajgfmfopkggdaaGreat
