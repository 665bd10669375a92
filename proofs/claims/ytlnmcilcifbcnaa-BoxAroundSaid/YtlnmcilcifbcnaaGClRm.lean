/-
  cells.Count: how many cells a quad has.
  cells, the reference: counts, Count.
-/
import Derived.Test.YtlnmcilcifbcnaaGClRa
import Derived.Test.YtlnmcilcifbcnaaGNdsW
import Derived.Test.YtlnmcilcifbcnaaGClOx
import Derived.Test.YtlnmcilcifbcnaaGClSo
import Derived.Deep.RegionHeld3
import Derived.Deep.RegionWith
import Derived.StillTailTactics
import Derived.Test.YtlnmcilcifbcnaaGNdRLoose

set_option linter.unusedVariables false
set_option linter.unusedSimpArgs false
set_option maxRecDepth 100000
namespace Go.Proofs.Ytlnmcilcifbcnaa
open Go.RowKit Nds Num
structure CoW (w : World) (A : Option Addr) (c n : Nat) (l : List Nd) (gr : Nat) (L : List Gv) (k : Nat) (s : Bool) (B : Option Addr) (d : Nat) (xs : List Nat) (m : Int) (W : World) : Prop where
 b : Below w.heap.size w W
 q : W.heap[w.heap.size]? = some (.cells #[.slice A n c] 31)
 r : W.heap[w.heap.size + 1]? = some (.cells #[.bool false, .slice none 0 0] 25)
 ct : HX W (w.heap.size + 1 + 1) s B d xs m
 row : OwnG W w.heap.size gr n L
 gl : w.heap.size + 1 + 1 < gr
 fine : ∀ j, j < k → GIn W (gat L j) (countT (den l (j + 1)))
theorem CoW.next {w : World} {A : Option Addr} {c n : Nat} {l : List Nd} {gr : Nat} {L : List Gv} {k : Nat} {s : Bool} {B : Option Addr} {d : Nat} {xs : List Nat} {m : Int} {W W1 : World} (h : CoW w A c n l gr L k s B d xs m W) (g : Below W.heap.size W W1) : CoW w A c n l gr L k s B d xs m W1 :=
 ⟨h.b.trans (g.mono h.b.size), (g.block _ (by have := h.ct.lt; omega)).trans h.q, (g.block _ (by have := h.ct.lt; omega)).trans h.r, h.ct.next g, h.row.next g, h.gl, fun j hj => (h.fine j hj).next g⟩
theorem setC_two (w : World) (g o p : Nat) (a b : Value) : w.grownBy ((w.setCell ⟨g, o, none⟩ a).setCell ⟨g, p, none⟩ b) (some g) := gb_two (setC_one w g o a) (setC_one _ g p b)
theorem CoW.set {w : World} {A : Option Addr} {c n : Nat} {l : List Nd} {gr : Nat} {L : List Gv} {k : Nat} {s : Bool} {B : Option Addr} {d : Nat} {xs : List Nat} {m : Int} {W : World} (h : CoW w A c n l gr L k s B d xs m W)
  {s2 : Bool} {A2 : Option Addr} {c2 : Nat} {ys : List Nat} {m2 : Int} (hu : Us W A2 c2 ys) (hc : CanonI s2 ys) (hv : ival s2 ys = m2) :
  CoW w A c n l gr L k s2 A2 c2 ys m2 ((W.setCell ⟨w.heap.size + 1 + 1, 0, none⟩ (.bool s2)).setCell ⟨w.heap.size + 1 + 1, 1, none⟩ (.slice A2 ys.length c2)) := by
 have hg := setC_two W (w.heap.size + 1 + 1) 0 1 (.bool s2) (.slice A2 ys.length c2)
 have hlt := h.ct.lt
 have hgl := h.gl
 exact ⟨h.b.grown hg h.b.size (fun q e => by cases e; omega), (hg.block _ (by omega) (by simp; omega)).trans h.q, (hg.block _ (by omega) (by simp)).trans h.r, h.ct.set hu hc hv, h.row.kept hg (by simp; omega), h.gl, fun j hj => (h.fine j hj).over (bool_cell h.ct.box) hg⟩
theorem CoW.put {w : World} {A : Option Addr} {c n : Nat} {l : List Nd} {gr : Nat} {L : List Gv} {k : Nat} {s : Bool} {B : Option Addr} {d : Nat} {xs : List Nat} {m : Int} {W : World} (h : CoW w A c n l gr L k s B d xs m W) (hk : k < n) (hm : m = countT (den l (k + 1))) :
  CoW w A c n l gr (L.set k ⟨s, B, d, xs⟩) (k + 1) s B d xs m ((W.setCell ⟨gr, k * 2, none⟩ (.bool s)).setCell ⟨gr, k * 2 + 1, none⟩ (.slice B xs.length d)) := by
 have hg := setC_two W gr (k * 2) (k * 2 + 1) (.bool s) (.slice B xs.length d)
 have hlt := h.ct.lt
 have hgl := h.gl
 obtain ⟨r1, r2, r3, r4, r5⟩ := h.row.row
 have hct : HX ((W.setCell ⟨gr, k * 2, none⟩ (.bool s)).setCell ⟨gr, k * 2 + 1, none⟩ (.slice B xs.length d)) (w.heap.size + 1 + 1) s B d xs m :=
  ⟨(hg.block _ (by omega) (by simp; omega)).trans h.ct.box, us_kept h.ct.us (fun q h1 h2 => hg.block q h1 (fun e => h2 (by cases e; rfl))) hg.size (us_off h.ct.us r5), h.ct.cn, h.ct.v, h.ct.off⟩
 refine ⟨h.b.grown hg h.b.size (fun q e => by cases e; exact r1), (hg.block _ (by omega) (by simp; omega)).trans h.q, (hg.block _ (by omega) (by simp; omega)).trans h.r, hct, h.row.put hk ⟨s, B, d, xs⟩, h.gl, fun j hj => ?_⟩
 by_cases hjk : k = j
 ·
  subst hjk
  rw [gat_set_same (by rw [h.row.1]; exact hk)]
  exact ⟨hct.us, hct.cn, hct.v.trans hm⟩
 ·
  rw [gat_set_ne hjk]
  exact (h.fine j (by omega)).over r5 hg
end Go.Proofs.Ytlnmcilcifbcnaa

namespace Go.Proofs.Ytlnmcilcifbcnaa
open Go.RowKit Nds Num
structure RcW (w : World) (n : Nat) (l : List Nd) (gr : Nat) (L : List Gv) (i : Nat) (m : Int) (W : World) : Prop where
 b : Below w.heap.size w W
 row : OwnG W w.heap.size gr (n + 1) L
 fine : ∀ j, j ≤ i → GIn W (gat L j) (countT (den l j) : Nat)
 now : i < n → GIn W (gat L (i + 1)) m
 zero : ∀ j, i + 1 < j → j ≤ n → gat L j = gv0
theorem RcW.next {w : World} {n : Nat} {l : List Nd} {gr : Nat} {L : List Gv} {i : Nat} {m : Int} {W W1 : World} (h : RcW w n l gr L i m W) (k : Below W.heap.size W W1) : RcW w n l gr L i m W1 :=
 ⟨h.b.trans (k.mono h.b.size), h.row.next k, fun j hj => (h.fine j hj).next k, fun e => (h.now e).next k, h.zero⟩
theorem RcW.put {w : World} {n : Nat} {l : List Nd} {gr : Nat} {L : List Gv} {i : Nat} {m m2 : Int} {W : World} (h : RcW w n l gr L i m W) (hi : i < n) {s : Bool} {B : Option Addr} {d : Nat} {xs : List Nat} (hu : Us W B d xs) (hc : CanonI s xs) (hv : ival s xs = m2) :
  RcW w n l gr (L.set (i + 1) ⟨s, B, d, xs⟩) i m2 ((W.setCell ⟨gr, (i + 1) * 2, none⟩ (.bool s)).setCell ⟨gr, (i + 1) * 2 + 1, none⟩ (.slice B xs.length d)) := by
 have hg := setC_two W gr ((i + 1) * 2) ((i + 1) * 2 + 1) (.bool s) (.slice B xs.length d)
 obtain ⟨r1, r2, r3, r4, r5⟩ := h.row.row
 refine ⟨h.b.grown hg h.b.size (fun q e => by cases e; exact r1), h.row.put (by omega) ⟨s, B, d, xs⟩, fun j hj => ?_, fun _ => ?_, fun j hj hn => ?_⟩
 ·
  rw [gat_set_ne (by omega)]
  exact (h.fine j hj).over r5 hg
 ·
  rw [gat_set_same (by rw [h.row.1]; omega)]
  exact ⟨us_kept hu (fun q h1 h2 => hg.block q h1 (fun e => h2 (by cases e; rfl))) hg.size (us_off hu r5), hc, hv⟩
 ·
  rw [gat_set_ne (by omega)]
  exact h.zero j hj hn
theorem RcW.step {w : World} {n : Nat} {l : List Nd} {gr : Nat} {L : List Gv} {i : Nat} {W : World} (h : RcW w n l gr L i (countT (den l (i + 1)) : Nat) W) (hi : i < n) : RcW w n l gr L (i + 1) 0 W :=
 ⟨h.b, h.row, fun j hj => by
  rcases Nat.lt_or_ge i j with h1 | h1
  ·
   rw [show j = i + 1 by omega]; exact h.now hi
  ·
   exact h.fine j h1, fun hn => by rw [h.zero (i + 1 + 1) (by omega) (by omega)]; exact GIn.zero W, fun j hj hn => h.zero j (by omega) hn⟩
end Go.Proofs.Ytlnmcilcifbcnaa
