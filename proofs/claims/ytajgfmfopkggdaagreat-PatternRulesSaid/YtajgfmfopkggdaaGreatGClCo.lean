/-
  look: what Set's walk needs.
  cells.Count: how many cells a quad has.
-/
import Derived.Test.YtajgfmfopkggdaaGreatGLkGw
import Derived.Deep.RegionHeld3
import Derived.Test.YtajgfmfopkggdaaGreatGNcOr
import Derived.Laws.EntriesVeiled
import Derived.Test.YtajgfmfopkggdaaGreatGNcPB
import Derived.Test.YtajgfmfopkggdaaGreatGClVp
import Derived.Test.YtajgfmfopkggdaaGreatGNcRS
import Derived.Test.YtajgfmfopkggdaaGreatGNdsE
import Derived.Test.YtajgfmfopkggdaaGreatGClWi
import Derived.Deep.RegionWith
import Derived.StillTailTactics

set_option linter.unusedVariables false
set_option linter.unusedSimpArgs false
set_option maxRecDepth 100000
namespace Go.Proofs.YtajgfmfopkggdaaGreat
open Go.RowKit Num Nds
def inR (X : Int) : Prop := -p2 1328 ≤ X ∧ X < p2 1328
instance (X : Int) : Decidable (inR X) := inferInstanceAs (Decidable (_ ∧ _))
def SetE (q : List Nd) (X Y s er : Int) (q' : List Nd) : Prop := if s ≠ 0 ∧ ¬ (inR X ∧ inR Y) then er = 4 ∧ q' = [] else er = 0 ∧ SetOf q X Y s q'
theorem SetE.one {q a b : List Nd} {X Y s er fr : Int} (h : SetE q X Y s er a) (k : SetE q X Y s fr b) : a = b ∧ er = fr := by
 unfold SetE at h k
 split at h
 ·
  rename_i h0
  rw [if_pos h0] at k
  exact ⟨h.2.trans k.2.symm, h.1.trans k.1.symm⟩
 ·
  rename_i h0
  rw [if_neg h0] at k
  exact ⟨h.2.one k.2, h.1.trans k.1.symm⟩
structure StW (w W : World) (A : Option Addr) (c n : Nat) (q : List Nd) (s : Bool) (A1 : Option Addr) (d1 : Nat) (xs : List Nat) (t : Bool) (A2 : Option Addr) (d2 : Nat) (ys : List Nat) : Prop where
 b : Below w.heap.size w W
 bq : W.heap[w.heap.size]? = some (.cells #[.slice A n c] 26)
 bx : W.heap[w.heap.size + 1]? = some (.cells #[.bool s, .slice A1 xs.length d1] 31)
 by_ : W.heap[w.heap.size + 1 + 1]? = some (.cells #[.bool t, .slice A2 ys.length d2] 31)
 br : W.heap[w.heap.size + 1 + 1 + 1]? = some (.cells #[.slice none 0 0] 26)
 ns : Ns W A c q
 ux : Us W A1 d1 xs
 uy : Us W A2 d2 ys
theorem heap_lt {W : World} {g : Nat} {o : Obj} (h : W.heap[g]? = some o) : g < W.heap.size := (Array.getElem?_eq_some_iff.1 h).1
theorem StW.next {w W V : World} {A : Option Addr} {c n : Nat} {q : List Nd} {s : Bool} {A1 : Option Addr} {d1 : Nat} {xs : List Nat} {t : Bool} {A2 : Option Addr} {d2 : Nat} {ys : List Nat} (h : StW w W A c n q s A1 d1 xs t A2 d2 ys) (k : Below W.heap.size W V) : StW w V A c n q s A1 d1 xs t A2 d2 ys :=
 ⟨h.b.trans (k.mono h.b.size), (k.block _ (heap_lt h.bq)).trans h.bq, (k.block _ (heap_lt h.bx)).trans h.bx, (k.block _ (heap_lt h.by_)).trans h.by_, (k.block _ (heap_lt h.br)).trans h.br, h.ns.below k, h.ux.below k, h.uy.below k⟩
theorem StW.at_ {w W : World} {A : Option Addr} {c n : Nat} {q : List Nd} {s : Bool} {A1 : Option Addr} {d1 : Nat} {xs : List Nat} {t : Bool} {A2 : Option Addr} {d2 : Nat} {ys : List Nat} (h : StW w W A c n q s A1 d1 xs t A2 d2 ys) :
  W.cell? ⟨w.heap.size, 0, none⟩ = some (.slice A n c) ∧ W.cell? ⟨w.heap.size + 1, 0, none⟩ = some (.bool s) ∧ W.cell? ⟨w.heap.size + 1, 1, none⟩ = some (.slice A1 xs.length d1) ∧ W.cell? ⟨w.heap.size + 1 + 1, 0, none⟩ = some (.bool t) ∧ W.cell? ⟨w.heap.size + 1 + 1, 1, none⟩ = some (.slice A2 ys.length d2) ∧ W.cell? ⟨w.heap.size + 1 + 1 + 1, 0, none⟩ = some (.slice none 0 0) ∧ W.frozen? ⟨w.heap.size + 1 + 1 + 1, 0, none⟩ = false :=
 ⟨one_cell h.bq, (big_cells h.bx).1, (big_cells h.bx).2, (big_cells h.by_).1, (big_cells h.by_).2, one_cell h.br, one_free h.br⟩
theorem StW.start (w : World) (A : Option Addr) (c n : Nat) (q : List Nd) (s : Bool) (A1 : Option Addr) (d1 : Nat) (xs : List Nat) (t : Bool) (A2 : Option Addr) (d2 : Nat) (ys : List Nat) (h : Ns w A c q) (hx : Us w A1 d1 xs) (hy : Us w A2 d2 ys) :
  StW w ((((w.alloc (.cells #[.slice A n c] 26)).alloc (.cells #[.bool s, .slice A1 xs.length d1] 31)).alloc (.cells #[.bool t, .slice A2 ys.length d2] 31)).alloc (.cells #[.slice none 0 0] 26)) A c n q s A1 d1 xs t A2 d2 ys := by
 have hb : Below w.heap.size w ((((w.alloc (.cells #[.slice A n c] 26)).alloc (.cells #[.bool s, .slice A1 xs.length d1] 31)).alloc (.cells #[.bool t, .slice A2 ys.length d2] 31)).alloc (.cells #[.slice none 0 0] 26)) := ((((Below.refl _ w).alloc (Nat.le_refl _) _).alloc (by simp) _).alloc (by simp; omega) _).alloc (by simp; omega) _
 refine ⟨hb, ?_, ?_, ?_, ?_, h.below hb, hx.below hb, hy.below hb⟩
 ·
  exact (Below.heap_alloc _ _ _ (by simp only [World.size_alloc]; omega)).trans ((Below.heap_alloc _ _ _ (by simp only [World.size_alloc]; omega)).trans ((Below.heap_alloc _ _ _ (by simp only [World.size_alloc]; omega)).trans (heap_alloc_new w _)))
 ·
  refine (Below.heap_alloc _ _ _ (by simp only [World.size_alloc]; omega)).trans ((Below.heap_alloc _ _ _ (by simp only [World.size_alloc]; omega)).trans ?_)
  have := heap_alloc_new (w.alloc (.cells #[.slice A n c] 26)) (.cells #[.bool s, .slice A1 xs.length d1] 31)
  rwa [World.size_alloc] at this
 ·
  refine (Below.heap_alloc _ _ _ (by simp only [World.size_alloc]; omega)).trans ?_
  have := heap_alloc_new ((w.alloc (.cells #[.slice A n c] 26)).alloc (.cells #[.bool s, .slice A1 xs.length d1] 31)) (.cells #[.bool t, .slice A2 ys.length d2] 31)
  rwa [World.size_alloc, World.size_alloc] at this
 ·
  have := heap_alloc_new (((w.alloc (.cells #[.slice A n c] 26)).alloc (.cells #[.bool s, .slice A1 xs.length d1] 31)).alloc (.cells #[.bool t, .slice A2 ys.length d2] 31)) (.cells #[.slice none 0 0] 26)
  rwa [World.size_alloc, World.size_alloc, World.size_alloc] at this
theorem StW.done {w W : World} {A : Option Addr} {c n : Nat} {q : List Nd} {s : Bool} {A1 : Option Addr} {d1 : Nat} {xs : List Nat} {t : Bool} {A2 : Option Addr} {d2 : Nat} {ys : List Nat} (h : StW w W A c n q s A1 d1 xs t A2 d2 ys) (u : Value) : Below w.heap.size w (W.setCell ⟨w.heap.size + 1 + 1 + 1, 0, none⟩ u) := h.b.setCell (by show w.heap.size ≤ w.heap.size + 1 + 1 + 1; omega) u
end Go.Proofs.YtajgfmfopkggdaaGreat

namespace Go.Proofs.YtajgfmfopkggdaaGreat
open Go.RowKit Nds Num
structure CoW (w : World) (A : Option Addr) (c n : Nat) (l : List Nd) (gr : Nat) (L : List Gv) (k : Nat) (s : Bool) (B : Option Addr) (d : Nat) (xs : List Nat) (m : Int) (W : World) : Prop where
 b : Below w.heap.size w W
 q : W.heap[w.heap.size]? = some (.cells #[.slice A n c] 26)
 r : W.heap[w.heap.size + 1]? = some (.cells #[.bool false, .slice none 0 0] 31)
 ct : HX W (w.heap.size + 1 + 1) s B d xs m
 row : OwnG W w.heap.size gr n L
 gl : w.heap.size + 1 + 1 < gr
 fine : ∀ j, j < k → GIn W (gat L j) (countT (den l (j + 1)))
theorem CoW.next {w : World} {A : Option Addr} {c n : Nat} {l : List Nd} {gr : Nat} {L : List Gv} {k : Nat} {s : Bool} {B : Option Addr} {d : Nat} {xs : List Nat} {m : Int} {W W1 : World} (h : CoW w A c n l gr L k s B d xs m W) (g : Below W.heap.size W W1) : CoW w A c n l gr L k s B d xs m W1 :=
 ⟨h.b.trans (g.mono h.b.size), (g.block _ (by have := h.ct.lt; omega)).trans h.q, (g.block _ (by have := h.ct.lt; omega)).trans h.r, h.ct.next g, h.row.next g, h.gl, fun j hj => (h.fine j hj).next g⟩
theorem setC_two (w : World) (g o p : Nat) (a b : Value) : w.grownBy ((w.setCell ⟨g, o, none⟩ a).setCell ⟨g, p, none⟩ b) (some g) := gb_two (setC_one w g o a) (setC_one _ g p b)
theorem CoW.set {w : World} {A : Option Addr} {c n : Nat} {l : List Nd} {gr : Nat} {L : List Gv} {k : Nat} {s : Bool} {B : Option Addr} {d : Nat} {xs : List Nat} {m : Int} {W : World} (h : CoW w A c n l gr L k s B d xs m W)
  {s2 : Bool} {A2 : Option Addr} {c2 : Nat} {ys : List Nat} {m2 : Int} (hu : Us W A2 c2 ys) (hc : CanonI s2 ys) (hv : ival s2 ys = m2) :
  CoW w A c n l gr L k s2 A2 c2 ys m2 ((W.setCell ⟨w.heap.size + 1 + 1, 0, none⟩ (.bool s2)).setCell ⟨w.heap.size + 1 + 1, 1, none⟩ (.slice A2 ys.length c2)) := by
 have hg := setC_two W (w.heap.size + 1 + 1) 0 1 (.bool s2) (.slice A2 ys.length c2)
 have hlt := h.ct.lt
 have hgl := h.gl
 exact ⟨h.b.grown hg h.b.size (fun q e => by cases e; omega), (hg.block _ (by omega) (by simp; omega)).trans h.q, (hg.block _ (by omega) (by simp)).trans h.r, h.ct.set hu hc hv, h.row.kept hg (by simp; omega), h.gl, fun j hj => (h.fine j hj).over (bool_cell h.ct.box) hg⟩
theorem CoW.put {w : World} {A : Option Addr} {c n : Nat} {l : List Nd} {gr : Nat} {L : List Gv} {k : Nat} {s : Bool} {B : Option Addr} {d : Nat} {xs : List Nat} {m : Int} {W : World} (h : CoW w A c n l gr L k s B d xs m W) (hk : k < n) (hm : m = countT (den l (k + 1))) :
  CoW w A c n l gr (L.set k ⟨s, B, d, xs⟩) (k + 1) s B d xs m ((W.setCell ⟨gr, k * 2, none⟩ (.bool s)).setCell ⟨gr, k * 2 + 1, none⟩ (.slice B xs.length d)) := by
 have hg := setC_two W gr (k * 2) (k * 2 + 1) (.bool s) (.slice B xs.length d)
 have hlt := h.ct.lt
 have hgl := h.gl
 obtain ⟨r1, r2, r3, r4, r5⟩ := h.row.row
 have hct : HX ((W.setCell ⟨gr, k * 2, none⟩ (.bool s)).setCell ⟨gr, k * 2 + 1, none⟩ (.slice B xs.length d)) (w.heap.size + 1 + 1) s B d xs m :=
  ⟨(hg.block _ (by omega) (by simp; omega)).trans h.ct.box, us_kept h.ct.us (fun q h1 h2 => hg.block q h1 (fun e => h2 (by cases e; rfl))) hg.size (us_off h.ct.us r5), h.ct.cn, h.ct.v, h.ct.off⟩
 refine ⟨h.b.grown hg h.b.size (fun q e => by cases e; exact r1), (hg.block _ (by omega) (by simp; omega)).trans h.q, (hg.block _ (by omega) (by simp; omega)).trans h.r, hct, h.row.put hk ⟨s, B, d, xs⟩, h.gl, fun j hj => ?_⟩
 by_cases hjk : k = j
 ·
  subst hjk
  rw [gat_set_same (by rw [h.row.1]; exact hk)]
  exact ⟨hct.us, hct.cn, hct.v.trans hm⟩
 ·
  rw [gat_set_ne hjk]
  exact (h.fine j (by omega)).over r5 hg
end Go.Proofs.YtajgfmfopkggdaaGreat
