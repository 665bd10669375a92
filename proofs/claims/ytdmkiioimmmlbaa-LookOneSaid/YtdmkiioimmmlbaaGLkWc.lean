/-
  look: LookDeep, the walk.
  look: LookCells, the walk.
-/
import Derived.Test.YtdmkiioimmmlbaaGLkAl
import Derived.Test.YtdmkiioimmmlbaaGNcRS
import Derived.Test.YtdmkiioimmmlbaaGLkGu
import Derived.Test.YtdmkiioimmmlbaaGNdsW

namespace Go.Proofs.Ytdmkiioimmmlbaa
set_option maxRecDepth 100000
set_option linter.unusedVariables false
set_option linter.unusedSimpArgs false
open Go.RowKit Num Nds
structure Ac (w W : World) (L : List (Option Addr × Nat × List Nd)) (M : List (Nat × Value)) (C : List (Nat × Cv)) : Prop where
 al : Al w W L M
 cb : ∀ t ∈ C, CvAt W t.1 0 t.2 ∧ CvU W t.2
theorem Ac.step {w W W' : World} {L : List (Option Addr × Nat × List Nd)} {M : List (Nat × Value)} {C : List (Nat × Cv)} (s : Ac w W L M C) (b : Below W.heap.size W W') : Ac w W' L M C :=
 ⟨s.al.step b, fun t ht => ⟨(s.cb t ht).1.below (b.block _ (World.block_lt_of_cell? _ _ (s.cb t ht).1.1)), (s.cb t ht).2.below b⟩⟩
theorem Ac.alloc {w W : World} {L : List (Option Addr × Nat × List Nd)} {M : List (Nat × Value)} {C : List (Nat × Cv)} (s : Ac w W L M C) (o : Obj) : Ac w (W.alloc o) L M C := s.step ((Below.refl _ W).alloc (Nat.le_refl _) o)
theorem Ac.addN {w W : World} {L : List (Option Addr × Nat × List Nd)} {M : List (Nat × Value)} {C : List (Nat × Cv)} (s : Ac w W L M C) {A : Option Addr} {c : Nat} {l : List Nd} (h : Ns W A c l) : Ac w W ((A, c, l) :: L) M C := ⟨s.al.addN h, s.cb⟩
theorem Ac.addB {w W : World} {L : List (Option Addr × Nat × List Nd)} {M : List (Nat × Value)} {C : List (Nat × Cv)} (s : Ac w W L M C) (v : Value) : Ac w (W.alloc (.cells #[v] 31)) L ((W.heap.size, v) :: M) C := ⟨s.al.addB v, (s.alloc _).cb⟩
theorem Ac.getN {w W : World} {L : List (Option Addr × Nat × List Nd)} {M : List (Nat × Value)} {C : List (Nat × Cv)} (s : Ac w W L M C) {A : Option Addr} {c : Nat} {l : List Nd} (h : (A, c, l) ∈ L) : Ns W A c l := s.al.getN h
theorem Ac.getB {w W : World} {L : List (Option Addr × Nat × List Nd)} {M : List (Nat × Value)} {C : List (Nat × Cv)} (s : Ac w W L M C) {g : Nat} {v : Value} (h : (g, v) ∈ M) : W.cell? ⟨g, 0, none⟩ = some v := s.al.getB h
theorem Ac.getC {w W : World} {L : List (Option Addr × Nat × List Nd)} {M : List (Nat × Value)} {C : List (Nat × Cv)} (s : Ac w W L M C) {g : Nat} {u : Cv} (h : (g, u) ∈ C) : W.cell? ⟨g, 0, none⟩ = some (.bool u.sx) ∧ W.cell? ⟨g, 1, none⟩ = some (.slice u.ax u.xs.length u.cx) ∧ W.cell? ⟨g, 2, none⟩ = some (.bool u.sy) ∧ W.cell? ⟨g, 3, none⟩ = some (.slice u.ay u.ys.length u.cy) ∧ W.cell? ⟨g, 4, none⟩ = some (.int .u8 u.st) := (s.cb _ h).1
theorem Ac.getU {w W : World} {L : List (Option Addr × Nat × List Nd)} {M : List (Nat × Value)} {C : List (Nat × Cv)} (s : Ac w W L M C) {g : Nat} {u : Cv} (h : (g, u) ∈ C) : CvU W u := (s.cb _ h).2
theorem Ac.b {w W : World} {L : List (Option Addr × Nat × List Nd)} {M : List (Nat × Value)} {C : List (Nat × Cv)} (s : Ac w W L M C) : Below w.heap.size w W := s.al.sn.1
theorem cells4 {W : World} {g : Nat} {u : Cv} (h : W.cell? ⟨g, 0, none⟩ = some (.bool u.sx) ∧ W.cell? ⟨g, 1, none⟩ = some (.slice u.ax u.xs.length u.cx) ∧ W.cell? ⟨g, 2, none⟩ = some (.bool u.sy) ∧ W.cell? ⟨g, 3, none⟩ = some (.slice u.ay u.ys.length u.cy) ∧ W.cell? ⟨g, 4, none⟩ = some (.int .u8 u.st)) :
  W.cell? ⟨g, 0, none⟩ = some (.bool u.sx) ∧ W.cell? ⟨g, 1, none⟩ = some (.slice u.ax u.xs.length u.cx) ∧ W.cell? ⟨g, 2, none⟩ = some (.bool u.sy) ∧ W.cell? ⟨g, 3, none⟩ = some (.slice u.ay u.ys.length u.cy) := ⟨h.1, h.2.1, h.2.2.1, h.2.2.2.1⟩
abbrev Cv.bx (u : Cv) : Bw := ⟨u.sx, u.ax, u.cx, u.xs⟩
abbrev Cv.by_ (u : Cv) : Bw := ⟨u.sy, u.ay, u.cy, u.ys⟩
theorem cv_r {W : World} {u : Cv} (h : CvU W u) (kx : CanonI u.sx u.xs) (ky : CanonI u.sy u.ys) : u.bx.R W (ival u.sx u.xs) ∧ u.by_.R W (ival u.sy u.ys) := ⟨⟨h.1, kx, rfl⟩, ⟨h.2.1, ky, rfl⟩⟩
theorem right_cn {s : Bool} {xs : List Nat} (h : rightI s xs = true) : CanonI s xs := right_canonC h
end Go.Proofs.Ytdmkiioimmmlbaa

namespace Go.Proofs.Ytdmkiioimmmlbaa
set_option maxRecDepth 100000
set_option linter.unusedVariables false
set_option linter.unusedSimpArgs false
open Go.RowKit Num Nds
theorem quad_len {l : List Cv} {most : Nat} {q : List Nd} (h : mayB l (most : Int) = true) (hq : QuadOf (lastF (l.map Cv.cl)) q) : q.length ≤ 1329 * most := by
 have h1 := (may_R h).1
 have h2 := hq.lenF.2
 have h3 := lastF_le (l.map Cv.cl)
 rw [List.length_map] at h3
 exact Nat.le_trans h2 (Nat.mul_le_mul_left _ (by omega))
end Go.Proofs.Ytdmkiioimmmlbaa
