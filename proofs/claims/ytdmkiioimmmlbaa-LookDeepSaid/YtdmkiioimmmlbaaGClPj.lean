/-
  cells, the reference: list.
-/
import Derived.Test.YtdmkiioimmmlbaaGClLa
import Derived.Test.YtdmkiioimmmlbaaGClVp
import Derived.Test.YtdmkiioimmmlbaaGNdRLoose
import Derived.Deep.RegionHeld3

namespace Go.Proofs.Ytdmkiioimmmlbaa
set_option maxRecDepth 100000
set_option linter.unusedVariables false
set_option linter.unusedSimpArgs false
open Go.RowKit Nds Num
def PXY (A : Option Addr) (xs : List Nat) (B : Option Addr) (ys : List Nat) : Nat → Prop := fun q => (0 < xs.length ∧ ∃ a, A = some a ∧ a.block = q) ∨ (0 < ys.length ∧ ∃ a, B = some a ∧ a.block = q)
structure RlJ (w : World) (A : Option Addr) (c : Nat) (l : List Nd) (x : Nd) (m : Nat) (sx : Bool) (Ax : Option Addr) (cx : Nat) (xs : List Nat) (sy : Bool) (Ay : Option Addr) (cy : Nat) (ys : List Nat) (gh : Nat) (sh : Bool) (Ah : Option Addr) (ch : Nat) (hs : List Nat) (X Y : Int) (k : Nat) (v : Value) (M : List Cv) (W : World) : Prop where
 b : Below w.heap.size w W
 ns : Ns W A c l
 bx : HB_ W (gh + 1) w.heap.size sx Ax cx xs X
 by_ : HB_ W (gh + 1) (w.heap.size + 1) sy Ay cy ys Y
 bh : HB_ W (gh + 1) gh sh Ah ch hs (p2 m)
 lt : w.heap.size + 1 < gh
 o : RlO w.heap.size (PXY Ax xs Ay ys) W v M
 ob : ∀ q, v.ownBlock = some q → gh < q
 mm : M.map Cv.cl = listK l x m X Y k
section
variable {w : World} {A : Option Addr} {c : Nat} {l : List Nd} {x : Nd} {m : Nat} {sx : Bool} {Ax : Option Addr} {cx : Nat} {xs : List Nat} {sy : Bool} {Ay : Option Addr} {cy : Nat} {ys : List Nat} {gh : Nat} {sh : Bool} {Ah : Option Addr} {ch : Nat} {hs : List Nat} {X Y : Int} {k : Nat} {v : Value} {M : List Cv} {W W1 : World}
theorem RlJ.next (h : RlJ w A c l x m sx Ax cx xs sy Ay cy ys gh sh Ah ch hs X Y k v M W) (q : Below W.heap.size W W1) : RlJ w A c l x m sx Ax cx xs sy Ay cy ys gh sh Ah ch hs X Y k v M W1 := by
 have hg : gh + 1 ≤ W.heap.size := h.bh.x.lt
 exact ⟨h.b.trans (q.mono h.b.size), h.ns.below q, h.bx.keep (q.mono hg), h.by_.keep (q.mono hg), h.bh.keep (q.mono hg), h.lt, h.o.next q, h.ob, h.mm⟩
end
structure RlB (P : Nat → Prop) (B : Nat) (wr : World) (ga gb : Nat) (sa : Bool) (Aa : Option Addr) (ca : Nat) (us : List Nat) (zx : Int) (sb : Bool) (Ab : Option Addr) (cb : Nat) (vs : List Nat) (zy : Int) (wx : World) : Prop where
 b : Below wr.heap.size wr wx
 a : HX wx ga sa Aa ca us zx
 d : HX wx gb sb Ab cb vs zy
 gea : wr.heap.size ≤ ga
 geb : wr.heap.size ≤ gb
 ne : ga ≠ gb
 la : 0 < us.length → ∀ a, Aa = some a → wr.heap.size ≤ a.block ∨ (P a.block ∧ a.block < B)
 lb : 0 < vs.length → ∀ a, Ab = some a → wr.heap.size ≤ a.block ∨ (P a.block ∧ a.block < B)
section
variable {P : Nat → Prop} {B : Nat} {wr : World} {ga gb : Nat} {sa : Bool} {Aa : Option Addr} {ca : Nat} {us : List Nat} {zx : Int} {sb : Bool} {Ab : Option Addr} {cb : Nat} {vs : List Nat} {zy : Int} {wx W1 : World}
theorem RlB.next (h : RlB P B wr ga gb sa Aa ca us zx sb Ab cb vs zy wx) (q : Below wx.heap.size wx W1) : RlB P B wr ga gb sa Aa ca us zx sb Ab cb vs zy W1 :=
 ⟨h.b.trans (q.mono h.b.size), h.a.next q, h.d.next q, h.gea, h.geb, h.ne, h.la, h.lb⟩
end
end Go.Proofs.Ytdmkiioimmmlbaa
