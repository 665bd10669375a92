/-
  canon: wider, in general.
  canon: Grow, in general.
  look: the setter: its box, and its row of nodes.
  look: what Set's walk needs.
-/
import Derived.Test.YtlnmcilcifbcnaaGLkGu
import Derived.Test.YtlnmcilcifbcnaaGNcLn
import Derived.Test.YtlnmcilcifbcnaaGNcAd
import Derived.Laws.EntriesVeiled
import Derived.Test.YtlnmcilcifbcnaaGClSo
import Derived.ArgAppend
import Derived.Deep.RegionHeld3

set_option linter.unusedVariables false
set_option linter.unusedSimpArgs false
set_option maxRecDepth 100000
namespace Go.Proofs.Ytlnmcilcifbcnaa
open Go.RowKit Nds
theorem wdK_skip {l : List Nd} {t : Nd} {k : Nat} (h : t.kid k = 0) : wdK l t (k + 1) = wdK l t k := if_pos h
theorem wdK_next {l : List Nd} {t : Nd} {k : Nat} (h : t.kid k ≠ 0) : wdK l t (k + 1) = ((wdK l t k).1 ++ [chK ⟨t.lv, 0, 0, 0, 0⟩ (3 - k) (t.kid k)], chK (wdK l t k).2 k (((wdK l t k).1.length + 1 : Nat) : Int)) := if_neg h
theorem NdBox.cells {w : World} {g : Nat} {x : Nd} (h : NdBox w g x) : w.cell? ⟨g, 0, none⟩ = some (.int .i64 x.lv) ∧ w.cell? ⟨g, 1, none⟩ = some (.int .i64 x.a) ∧ w.cell? ⟨g, 2, none⟩ = some (.int .i64 x.b) ∧ w.cell? ⟨g, 3, none⟩ = some (.int .i64 x.c) ∧ w.cell? ⟨g, 4, none⟩ = some (.int .i64 x.d) := h.at_
end Go.Proofs.Ytlnmcilcifbcnaa

namespace Go.Proofs.Ytlnmcilcifbcnaa
open Go.RowKit Nds
def growQ (lv : Nat) (q : List Nd) : List Nd := if q.length = 0 then [] else growF (lv - (at_ q (q.length - 1)).lv.toNat) q
theorem wdK_more (l : List Nd) (t : Nd) : ∀ k, l.length ≤ (wdK l t k).1.length
 | 0 => Nat.le_refl _
 | k + 1 => by
  have := wdK_more l t k
  by_cases h : t.kid k = 0
  ·
   rw [wdK_skip h]; omega
  ·
   rw [wdK_next h]; simp; omega
theorem wide_more (l : List Nd) : l.length + 1 ≤ (wideF l).length := by
 unfold wideF
 have := wdK_more l (at_ l (l.length - 1)) 4
 rw [List.length_append, List.length_singleton]
 omega
structure GrS (lv : Nat) (q : List Nd) (d m : Nat) (g : List Nd) : Prop where
 loose : looseB g = true
 size : g.length = m + 1
 low : (lv : Int) ≤ (at_ g m).lv + d
 up : 0 < d → (at_ g m).lv + d = lv
 len : m + 5 * d ≤ q.length + 6645
 same : growF d g = growQ lv q
theorem GrS.start {lv : Nat} {q : List Nd} (hl : looseB q = true) (h9 : lv ≤ 1329) {p : Nat} (hp : q.length = p + 1) : GrS lv q (lv - (at_ q p).lv.toNat) p q := by
 have hv := fit_lv (loose_fit hl (i := p) (by omega))
 refine ⟨hl, hp, by omega, fun h => by omega, by omega, ?_⟩
 unfold growQ
 rw [if_neg (by omega), hp, Nat.add_sub_cancel]
theorem GrS.next {lv : Nat} {q g : List Nd} (h9 : lv ≤ 1329) {d m : Nat} (h : GrS lv q (d + 1) m g) : ∃ m2, GrS lv q d m2 (wideF g) ∧ m < m2 ∧ m2 ≤ m + 5 := by
 have hu := h.up (by omega)
 have hf := fit_lv (loose_fit h.loose (i := m) (by rw [h.size]; omega))
 obtain ⟨k, hk⟩ : ∃ k : Nat, (at_ g m).lv = (k : Int) + 1 := ⟨((at_ g m).lv - 1).toNat, by omega⟩
 have hs := h.size
 obtain ⟨w1, w2⟩ := wide_spec h.loose (m := k) (by omega) (by rw [hs, Nat.add_sub_cancel]; exact hk) (by omega)
 have hm := wide_more g
 have hlv := w1.lv
 obtain ⟨m2, hm2⟩ : ∃ m2, (wideF g).length = m2 + 1 := ⟨(wideF g).length - 1, by omega⟩
 rw [hm2, Nat.add_sub_cancel] at hlv
 have hlen := h.len
 exact ⟨m2, ⟨w1.loose, hm2, by rw [hlv]; omega, fun h2 => by rw [hlv]; omega, by omega, h.same⟩, by omega, by omega⟩
end Go.Proofs.Ytlnmcilcifbcnaa

namespace Go.Proofs.Ytlnmcilcifbcnaa
open Go.RowKit Num Nds
def CutN (w : World) (base : Nat) (v : Value) (l : List Nd) : Prop := OwnN w base v l ∨ ∃ A d, v = .slice A l.length l.length ∧ Ns w A d l ∧ (A = none → l.length = 0)
theorem CutN.low {w : World} {base b : Nat} {v : Value} {l : List Nd} (h : CutN w base v l) (hb : b ≤ base) : CutN w b v l := by
 rcases h with h | h
 ·
  exact .inl (h.mono hb)
 ·
  exact .inr h
def SetB (w : World) (bb : Nat) (v : Cv) (nv : Value) (s : Nat) : Prop := w.heap[bb]? = some (.cells #[.bool v.sx, .slice v.ax v.xs.length v.cx, .bool v.sy, .slice v.ay v.ys.length v.cy, nv, .int .u8 (s : Int)] 74)
theorem SetB.lt {w : World} {bb : Nat} {v : Cv} {nv : Value} {s : Nat} (h : SetB w bb v nv s) : bb < w.heap.size := (Array.getElem?_eq_some_iff.1 h).1
theorem SetB.free {w : World} {bb : Nat} {v : Cv} {nv : Value} {s : Nat} (h : SetB w bb v nv s) (k : Nat) : w.frozen? ⟨bb, k, none⟩ = false := frozen_of_row w bb k _ _ h
theorem SetB.at_ {w : World} {bb : Nat} {v : Cv} {nv : Value} {s : Nat} (h : SetB w bb v nv s) : w.cell? ⟨bb, 0, none⟩ = some (.bool v.sx) ∧ w.cell? ⟨bb, 1, none⟩ = some (.slice v.ax v.xs.length v.cx) ∧ w.cell? ⟨bb, 2, none⟩ = some (.bool v.sy) ∧ w.cell? ⟨bb, 3, none⟩ = some (.slice v.ay v.ys.length v.cy) ∧ w.cell? ⟨bb, 4, none⟩ = some nv ∧ w.cell? ⟨bb, 5, none⟩ = some (.int .u8 (s : Int)) := by
 refine ⟨?_, ?_, ?_, ?_, ?_, ?_⟩ <;> (rw [cell_of_row w bb _ _ _ (0, 0) h]; rfl)
theorem SetB.put {w : World} {bb : Nat} {v : Cv} {nv : Value} {s : Nat} (h : SetB w bb v nv s) (nu : Value) : SetB (w.setCell ⟨bb, 4, none⟩ nu) bb v nu s := (heap_setCell_same w bb 4 _ _ _ h).trans rfl
end Go.Proofs.Ytlnmcilcifbcnaa

namespace Go.Proofs.Ytlnmcilcifbcnaa
open Go.RowKit Num Nds
def inR (X : Int) : Prop := -p2 1328 ≤ X ∧ X < p2 1328
instance (X : Int) : Decidable (inR X) := inferInstanceAs (Decidable (_ ∧ _))
def SetE (q : List Nd) (X Y s er : Int) (q' : List Nd) : Prop := if s ≠ 0 ∧ ¬ (inR X ∧ inR Y) then er = 4 ∧ q' = [] else er = 0 ∧ SetOf q X Y s q'
theorem SetE.one {q a b : List Nd} {X Y s er fr : Int} (h : SetE q X Y s er a) (k : SetE q X Y s fr b) : a = b ∧ er = fr := by
 unfold SetE at h k
 split at h
 ·
  rename_i h0
  rw [if_pos h0] at k
  exact ⟨h.2.trans k.2.symm, h.1.trans k.1.symm⟩
 ·
  rename_i h0
  rw [if_neg h0] at k
  exact ⟨h.2.one k.2, h.1.trans k.1.symm⟩
structure StW (w W : World) (A : Option Addr) (c n : Nat) (q : List Nd) (s : Bool) (A1 : Option Addr) (d1 : Nat) (xs : List Nat) (t : Bool) (A2 : Option Addr) (d2 : Nat) (ys : List Nat) : Prop where
 b : Below w.heap.size w W
 bq : W.heap[w.heap.size]? = some (.cells #[.slice A n c] 31)
 bx : W.heap[w.heap.size + 1]? = some (.cells #[.bool s, .slice A1 xs.length d1] 25)
 by_ : W.heap[w.heap.size + 1 + 1]? = some (.cells #[.bool t, .slice A2 ys.length d2] 25)
 br : W.heap[w.heap.size + 1 + 1 + 1]? = some (.cells #[.slice none 0 0] 31)
 ns : Ns W A c q
 ux : Us W A1 d1 xs
 uy : Us W A2 d2 ys
theorem heap_lt {W : World} {g : Nat} {o : Obj} (h : W.heap[g]? = some o) : g < W.heap.size := (Array.getElem?_eq_some_iff.1 h).1
theorem StW.next {w W V : World} {A : Option Addr} {c n : Nat} {q : List Nd} {s : Bool} {A1 : Option Addr} {d1 : Nat} {xs : List Nat} {t : Bool} {A2 : Option Addr} {d2 : Nat} {ys : List Nat} (h : StW w W A c n q s A1 d1 xs t A2 d2 ys) (k : Below W.heap.size W V) : StW w V A c n q s A1 d1 xs t A2 d2 ys :=
 ⟨h.b.trans (k.mono h.b.size), (k.block _ (heap_lt h.bq)).trans h.bq, (k.block _ (heap_lt h.bx)).trans h.bx, (k.block _ (heap_lt h.by_)).trans h.by_, (k.block _ (heap_lt h.br)).trans h.br, h.ns.below k, h.ux.below k, h.uy.below k⟩
theorem StW.at_ {w W : World} {A : Option Addr} {c n : Nat} {q : List Nd} {s : Bool} {A1 : Option Addr} {d1 : Nat} {xs : List Nat} {t : Bool} {A2 : Option Addr} {d2 : Nat} {ys : List Nat} (h : StW w W A c n q s A1 d1 xs t A2 d2 ys) :
  W.cell? ⟨w.heap.size, 0, none⟩ = some (.slice A n c) ∧ W.cell? ⟨w.heap.size + 1, 0, none⟩ = some (.bool s) ∧ W.cell? ⟨w.heap.size + 1, 1, none⟩ = some (.slice A1 xs.length d1) ∧ W.cell? ⟨w.heap.size + 1 + 1, 0, none⟩ = some (.bool t) ∧ W.cell? ⟨w.heap.size + 1 + 1, 1, none⟩ = some (.slice A2 ys.length d2) ∧ W.cell? ⟨w.heap.size + 1 + 1 + 1, 0, none⟩ = some (.slice none 0 0) ∧ W.frozen? ⟨w.heap.size + 1 + 1 + 1, 0, none⟩ = false :=
 ⟨one_cell h.bq, (big_cells h.bx).1, (big_cells h.bx).2, (big_cells h.by_).1, (big_cells h.by_).2, one_cell h.br, one_free h.br⟩
theorem StW.start (w : World) (A : Option Addr) (c n : Nat) (q : List Nd) (s : Bool) (A1 : Option Addr) (d1 : Nat) (xs : List Nat) (t : Bool) (A2 : Option Addr) (d2 : Nat) (ys : List Nat) (h : Ns w A c q) (hx : Us w A1 d1 xs) (hy : Us w A2 d2 ys) :
  StW w ((((w.alloc (.cells #[.slice A n c] 31)).alloc (.cells #[.bool s, .slice A1 xs.length d1] 25)).alloc (.cells #[.bool t, .slice A2 ys.length d2] 25)).alloc (.cells #[.slice none 0 0] 31)) A c n q s A1 d1 xs t A2 d2 ys := by
 have hb : Below w.heap.size w ((((w.alloc (.cells #[.slice A n c] 31)).alloc (.cells #[.bool s, .slice A1 xs.length d1] 25)).alloc (.cells #[.bool t, .slice A2 ys.length d2] 25)).alloc (.cells #[.slice none 0 0] 31)) := ((((Below.refl _ w).alloc (Nat.le_refl _) _).alloc (by simp) _).alloc (by simp; omega) _).alloc (by simp; omega) _
 refine ⟨hb, ?_, ?_, ?_, ?_, h.below hb, hx.below hb, hy.below hb⟩
 ·
  exact (Below.heap_alloc _ _ _ (by simp only [World.size_alloc]; omega)).trans ((Below.heap_alloc _ _ _ (by simp only [World.size_alloc]; omega)).trans ((Below.heap_alloc _ _ _ (by simp only [World.size_alloc]; omega)).trans (heap_alloc_new w _)))
 ·
  refine (Below.heap_alloc _ _ _ (by simp only [World.size_alloc]; omega)).trans ((Below.heap_alloc _ _ _ (by simp only [World.size_alloc]; omega)).trans ?_)
  have := heap_alloc_new (w.alloc (.cells #[.slice A n c] 31)) (.cells #[.bool s, .slice A1 xs.length d1] 25)
  rwa [World.size_alloc] at this
 ·
  refine (Below.heap_alloc _ _ _ (by simp only [World.size_alloc]; omega)).trans ?_
  have := heap_alloc_new ((w.alloc (.cells #[.slice A n c] 31)).alloc (.cells #[.bool s, .slice A1 xs.length d1] 25)) (.cells #[.bool t, .slice A2 ys.length d2] 25)
  rwa [World.size_alloc, World.size_alloc] at this
 ·
  have := heap_alloc_new (((w.alloc (.cells #[.slice A n c] 31)).alloc (.cells #[.bool s, .slice A1 xs.length d1] 25)).alloc (.cells #[.bool t, .slice A2 ys.length d2] 25)) (.cells #[.slice none 0 0] 31)
  rwa [World.size_alloc, World.size_alloc, World.size_alloc] at this
theorem StW.done {w W : World} {A : Option Addr} {c n : Nat} {q : List Nd} {s : Bool} {A1 : Option Addr} {d1 : Nat} {xs : List Nat} {t : Bool} {A2 : Option Addr} {d2 : Nat} {ys : List Nat} (h : StW w W A c n q s A1 d1 xs t A2 d2 ys) (u : Value) : Below w.heap.size w (W.setCell ⟨w.heap.size + 1 + 1 + 1, 0, none⟩ u) := h.b.setCell (by show w.heap.size ≤ w.heap.size + 1 + 1 + 1; omega) u
end Go.Proofs.Ytlnmcilcifbcnaa
