/-
  What the laws of big numbers ask first: the document's example.
  BigSums holds of every input.
-/
import Derived.Test.YteekijmhghokkaaDoorNumbC

namespace Go.Proofs.YteekijmhghokkaaDoor
set_option linter.unusedVariables false
set_option linter.unusedSimpArgs false
open Go.RowKit Num
/-- The answer is this very number. -/
theorem RetI.is {n : Int} {w : World} {e : Ending} {w' : World} (h : RetI n w e w') (s : Bool) (zs : List Nat) (hc : CanonI s zs) (hd : Dig zs) (hv : ival s zs = n) :
    ∃ A c, e = .returned (.agg #[.bool s, .slice A zs.length c]) ∧ Us w' A c zs ∧ Below w.heap.size w w' := by
  obtain ⟨A, c, t, rs, rfl, q, k, v, b⟩ := h
  obtain ⟨rfl, rfl⟩ := uniqI q.1 hd k hc (v.trans hv.symm)
  exact ⟨A, c, rfl, q, b⟩
end Go.Proofs.YteekijmhghokkaaDoor

namespace Go.Proofs.YteekijmhghokkaaDoor
set_option linter.unusedVariables false
set_option linter.unusedSimpArgs false
open Go.RowKit Num
/-- Slices and boxes that stand as they stood. -/
def Sb (w W : World) (l : List (Option Addr × Nat × List Nat)) (bs : List (Nat × Value × Value)) : Prop := St w W l ∧ ∀ t ∈ bs, Box W t.1 t.2.1 t.2.2
theorem Sb.get {w W : World} {l : List (Option Addr × Nat × List Nat)} {bs : List (Nat × Value × Value)} (s : Sb w W l bs) {A : Option Addr} {c : Nat} {xs : List Nat} (h : (A, c, xs) ∈ l) : Us W A c xs := s.1.2 _ h
theorem Sb.box {w W : World} {l : List (Option Addr × Nat × List Nat)} {bs : List (Nat × Value × Value)} (s : Sb w W l bs) {g : Nat} {x y : Value} (h : (g, x, y) ∈ bs) : Box W g x y := s.2 _ h
theorem Sb.step {w W W' : World} {l : List (Option Addr × Nat × List Nat)} {bs : List (Nat × Value × Value)} (s : Sb w W l bs) (b : Below W.heap.size W W') : Sb w W' l bs :=
  ⟨s.1.step b, fun t ht => (s.2 t ht).below b⟩
theorem Sb.call {w W W' : World} {l : List (Option Addr × Nat × List Nat)} {bs : List (Nat × Value × Value)} (s : Sb w W l bs) (b : Below W.heap.size W W') {A : Option Addr} {c : Nat} {xs : List Nat} (h : Us W' A c xs) : Sb w W' ((A, c, xs) :: l) bs :=
  ⟨s.1.call b h, fun t ht => (s.2 t ht).below b⟩
theorem Sb.drew {w W : World} {l : List (Option Addr × Nat × List Nat)} {bs : List (Nat × Value × Value)} (s : Sb w W l bs) : Sb w W.drew l bs := s.step (Below.drew' (Below.refl _ _))
theorem Sb.held2 {w W : World} {l : List (Option Addr × Nat × List Nat)} {g h : Nat} {x y u v : Value} (s : Sb w W l [(g, x, y), (h, u, v)]) :
    W.cell? ⟨g, 0, none⟩ = some x ∧ W.cell? ⟨g, 1, none⟩ = some y ∧ W.cell? ⟨h, 0, none⟩ = some u ∧ W.cell? ⟨h, 1, none⟩ = some v :=
  ⟨(s.box (by simp : (g, x, y) ∈ _)).1, (s.box (by simp : (g, x, y) ∈ _)).2.1, (s.box (by simp : (h, u, v) ∈ _)).1, (s.box (by simp : (h, u, v) ∈ _)).2.1⟩
theorem right_canon {s : Bool} {xs : List Nat} (h : rightI s xs = true) : CanonI s xs := by
  unfold rightI at h
  rw [Bool.and_eq_true] at h
  refine ⟨?_, fun hs e => ?_⟩
  · have h1 := h.1
    simp [rightB] at h1
    unfold Canon
    rw [List.getLast?_eq_getElem?]
    intro e
    rcases h1 with rfl | h1
    · simp at e
    · rw [e] at h1
      exact h1 rfl
  · subst hs e
    simp at h
/-- At a law's beginning: both numbers in boxes. -/
theorem Sb.start {w : World} {A B : Option Addr} {c d : Nat} {xs ys : List Nat} (h : Us w A c xs) (k : Us w B d ys) (x y : Value) (z v : Value) (ty : TypeId) :
    Sb w ((w.alloc (.cells #[x, y] ty)).alloc (.cells #[z, v] ty)) [(B, d, ys), (A, c, xs)] [(w.heap.size, x, y), (w.heap.size + 1, z, v)] := by
  obtain ⟨h1, h2, h3⟩ := box2 w x y z v ty
  refine ⟨(((St.start w).add h).add k).step h3, fun t ht => ?_⟩
  rcases List.mem_cons.1 ht with rfl | ht
  · exact h1
  · rcases List.mem_cons.1 ht with rfl | ht
    · exact h2
    · cases ht
end Go.Proofs.YteekijmhghokkaaDoor
