/-
  look: LookDeep, the walk.
-/
import Derived.Test.YtdmkiioimmmlbaaGLkAl
import Derived.Test.YtdmkiioimmmlbaaGNcRS
import Derived.Test.YtdmkiioimmmlbaaGLkGu
import Derived.Test.YtdmkiioimmmlbaaGNdsW

namespace Go.Proofs.Ytdmkiioimmmlbaa
set_option maxRecDepth 100000
set_option linter.unusedVariables false
set_option linter.unusedSimpArgs false
open Go.RowKit Num Nds
structure Ac (w W : World) (L : List (Option Addr × Nat × List Nd)) (M : List (Nat × Value)) (C : List (Nat × Cv)) : Prop where
 al : Al w W L M
 cb : ∀ t ∈ C, CvAt W t.1 0 t.2 ∧ CvU W t.2
theorem Ac.step {w W W' : World} {L : List (Option Addr × Nat × List Nd)} {M : List (Nat × Value)} {C : List (Nat × Cv)} (s : Ac w W L M C) (b : Below W.heap.size W W') : Ac w W' L M C :=
 ⟨s.al.step b, fun t ht => ⟨(s.cb t ht).1.below (b.block _ (World.block_lt_of_cell? _ _ (s.cb t ht).1.1)), (s.cb t ht).2.below b⟩⟩
theorem Ac.alloc {w W : World} {L : List (Option Addr × Nat × List Nd)} {M : List (Nat × Value)} {C : List (Nat × Cv)} (s : Ac w W L M C) (o : Obj) : Ac w (W.alloc o) L M C := s.step ((Below.refl _ W).alloc (Nat.le_refl _) o)
theorem Ac.addN {w W : World} {L : List (Option Addr × Nat × List Nd)} {M : List (Nat × Value)} {C : List (Nat × Cv)} (s : Ac w W L M C) {A : Option Addr} {c : Nat} {l : List Nd} (h : Ns W A c l) : Ac w W ((A, c, l) :: L) M C := ⟨s.al.addN h, s.cb⟩
theorem Ac.addB {w W : World} {L : List (Option Addr × Nat × List Nd)} {M : List (Nat × Value)} {C : List (Nat × Cv)} (s : Ac w W L M C) (v : Value) : Ac w (W.alloc (.cells #[v] 31)) L ((W.heap.size, v) :: M) C := ⟨s.al.addB v, (s.alloc _).cb⟩
theorem Ac.getN {w W : World} {L : List (Option Addr × Nat × List Nd)} {M : List (Nat × Value)} {C : List (Nat × Cv)} (s : Ac w W L M C) {A : Option Addr} {c : Nat} {l : List Nd} (h : (A, c, l) ∈ L) : Ns W A c l := s.al.getN h
theorem Ac.getB {w W : World} {L : List (Option Addr × Nat × List Nd)} {M : List (Nat × Value)} {C : List (Nat × Cv)} (s : Ac w W L M C) {g : Nat} {v : Value} (h : (g, v) ∈ M) : W.cell? ⟨g, 0, none⟩ = some v := s.al.getB h
theorem Ac.b {w W : World} {L : List (Option Addr × Nat × List Nd)} {M : List (Nat × Value)} {C : List (Nat × Cv)} (s : Ac w W L M C) : Below w.heap.size w W := s.al.sn.1
abbrev Cv.bx (u : Cv) : Bw := ⟨u.sx, u.ax, u.cx, u.xs⟩
abbrev Cv.by_ (u : Cv) : Bw := ⟨u.sy, u.ay, u.cy, u.ys⟩
theorem cv_r {W : World} {u : Cv} (h : CvU W u) (kx : CanonI u.sx u.xs) (ky : CanonI u.sy u.ys) : u.bx.R W (ival u.sx u.xs) ∧ u.by_.R W (ival u.sy u.ys) := ⟨⟨h.1, kx, rfl⟩, ⟨h.2.1, ky, rfl⟩⟩
end Go.Proofs.Ytdmkiioimmmlbaa
