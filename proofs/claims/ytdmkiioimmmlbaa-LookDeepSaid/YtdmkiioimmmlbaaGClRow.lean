/-
  From a call's reading to the walks' facts: cells, lists of cells.
-/
import Derived.Test.YtdmkiioimmmlbaaGClM
import Derived.Test.YtdmkiioimmmlbaaGBigRow
import Derived.Test.YtdmkiioimmmlbaaGNdRow

namespace Go.Proofs.Ytdmkiioimmmlbaa
set_option maxRecDepth 100000
set_option linter.unusedVariables false
set_option linter.unusedSimpArgs false
open Go.ChangeShapes Go.WideShapes Go.ChangeAt Go.RowKit Go.Deep Num
theorem crow_cells5 : Try.prog.cellsOf 27 = 5 := by kernel_rfl
theorem crow_cellsB : Try.prog.cellsOf 4 = 1 := by kernel_rfl
theorem crow_cellsS : Try.prog.cellsOf 23 = 1 := by kernel_rfl
theorem crow_cells8 : Try.prog.cellsOf 5 = 1 := by kernel_rfl
section
variable {H : Type} {enc : TypeId × Value → H} {W : World} {base : Nat}
theorem bg_trod {fuel : Nat} {cs : List Value} {x : DataW H × List MemPlace} (h : DataW.trod enc Try.prog W base (fun _ => true) true fuel 25 cs = some x) (hlt : ∀ z ∈ x.2, z.block < W.heap.size) :
  ∃ s A c xs, cs = [.bool s, .slice A xs.length c] ∧ Us W A c xs := by
 obtain ⟨xs, n, _, rfl, hlen, hxl, hf⟩ := DataW.trod_struct Try.underlying25 h
 rw [row_cellsBig] at hlen
 have h0 : DataW.trod enc Try.prog W base (fun _ => true) true n 4 ((cs.drop 0).take (Try.prog.cellsOf 4)) = xs[0]? := hf 0 _ rfl
 have h1 : DataW.trod enc Try.prog W base (fun _ => true) true n 23 ((cs.drop 1).take (Try.prog.cellsOf 23)) = xs[1]? := hf 1 _ rfl
 rw [crow_cellsB] at h0
 rw [crow_cellsS] at h1
 match cs, hlen with
 | [v0, v1], _ =>
  match xs, hxl with
  | [y0, y1], _ =>
   have h0' : DataW.trod enc Try.prog W base (fun _ => true) true n 4 [v0] = some y0 := h0
   have h1' : DataW.trod enc Try.prog W base (fun _ => true) true n 23 [v1] = some y1 := h1
   obtain ⟨b, e0, rfl⟩ := DataW.trod_bool Try.underlying4 h0'
   simp at e0
   subst e0
   obtain ⟨A, c, us, rfl, hU⟩ := us_field h1' (fun z hz => hlt z (by simp [hz]))
   exact ⟨b, A, c, us, rfl, hU⟩
theorem cv_trod {fuel : Nat} {cs : List Value} {x : DataW H × List MemPlace} (h : DataW.trod enc Try.prog W base (fun _ => true) true fuel 27 cs = some x) (hlt : ∀ z ∈ x.2, z.block < W.heap.size) :
  ∃ v : Cv, cs = [.bool v.sx, .slice v.ax v.xs.length v.cx, .bool v.sy, .slice v.ay v.ys.length v.cy, .int .u8 v.st] ∧ CvU W v := by
 obtain ⟨xs, n, _, rfl, hlen, hxl, hf⟩ := DataW.trod_struct Try.underlying27 h
 rw [crow_cells5] at hlen
 have h0 : DataW.trod enc Try.prog W base (fun _ => true) true n 25 ((cs.drop 0).take (Try.prog.cellsOf 25)) = xs[0]? := hf 0 _ rfl
 have h1 : DataW.trod enc Try.prog W base (fun _ => true) true n 25 ((cs.drop 2).take (Try.prog.cellsOf 25)) = xs[1]? := hf 1 _ rfl
 have h2 : DataW.trod enc Try.prog W base (fun _ => true) true n 5 ((cs.drop 4).take (Try.prog.cellsOf 5)) = xs[2]? := hf 2 _ rfl
 rw [row_cellsBig] at h0 h1
 rw [crow_cells8] at h2
 match cs, hlen with
 | [v0, v1, v2, v3, v4], _ =>
  match xs, hxl with
  | [y0, y1, y2], _ =>
   have h0' : DataW.trod enc Try.prog W base (fun _ => true) true n 25 [v0, v1] = some y0 := h0
   have h1' : DataW.trod enc Try.prog W base (fun _ => true) true n 25 [v2, v3] = some y1 := h1
   have h2' : DataW.trod enc Try.prog W base (fun _ => true) true n 5 [v4] = some y2 := h2
   obtain ⟨s, A, c, us, e0, u0⟩ := bg_trod h0' (fun z hz => hlt z (by simp [hz]))
   obtain ⟨t, B, d, vs, e1, u1⟩ := bg_trod h1' (fun z hz => hlt z (by simp [hz]))
   obtain ⟨m, e2, _, hw⟩ := DataW.trod_int Try.underlying5 h2'
   have k1 : IntKind.u8.min = 0 := rfl
   have k2 : IntKind.u8.max = 255 := rfl
   simp [Lit.wf, k1, k2] at hw
   simp at e0 e1 e2
   obtain ⟨rfl, rfl⟩ := e0
   obtain ⟨rfl, rfl⟩ := e1
   subst e2
   obtain ⟨k, rfl⟩ : ∃ k : Nat, m = (k : Int) := ⟨m.toNat, by omega⟩
   exact ⟨⟨s, A, c, us, t, B, d, vs, k⟩, rfl, u0, u1, show k ≤ 255 by omega⟩
end
theorem cv_open {H : Type} {enc : TypeId × Value → H} {W : World} {base b0 : Nat} {r : Reach} {v : Value} {d : DataW H} {p : List MemPlace} (hok : Value.okWide Try.prog W r b0 27 v)
  (h : DataW.Trod enc Try.prog W base (fun _ => true) true 27 v d p) (hlt : ∀ y ∈ p, y.block < W.heap.size) : ∃ u : Cv, v = cvv u ∧ CvU W u := by
 obtain ⟨cs, rfl, hsz⟩ := okWide_struct Try.underlying27 hok
 obtain ⟨fuel, hf⟩ := h
 obtain ⟨u, e, hu⟩ := cv_trod hf hlt
 refine ⟨u, ?_, hu⟩
 obtain ⟨l⟩ := cs
 simp [Value.cells] at e
 rw [e]
end Go.Proofs.Ytdmkiioimmmlbaa
