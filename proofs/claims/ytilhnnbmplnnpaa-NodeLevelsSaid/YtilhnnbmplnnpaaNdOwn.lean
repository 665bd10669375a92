/-
  node: slices of nodes that the call has made; append.
-/
import Derived.Test.YtilhnnbmplnnpaaNdMem
import Derived.OwnWalk
import Derived.Laws.AppendOwnNone
import Derived.Maps.AppendAt

namespace Go.Proofs.Ytilhnnbmplnnpaa
set_option linter.unusedVariables false
set_option linter.unusedSimpArgs false
open Go.RowKit Nds
def ndc (x : Nd) : List Value := [.int .i64 x.lv, .int .i64 x.a, .int .i64 x.b, .int .i64 x.c, .int .i64 x.d]
def ndcs (l : List Nd) : List Value := l.flatMap ndc
theorem ndcs_len (l : List Nd) : (ndcs l).length = l.length * 5 := by
  unfold ndcs
  induction l with
  | nil => rfl
  | cons x l ih =>
    rw [List.flatMap_cons, List.length_append, ih, List.length_cons]
    show 5 + _ = _
    omega
theorem ndcs_at : ∀ (l : List Nd) (i j : Nat), i < l.length → j < 5 → (ndcs l)[i * 5 + j]? = (ndc (at_ l i))[j]?
  | [], i, _, hi, _ => by simp at hi
  | x :: l, 0, j, _, hj => by
    show (ndc x ++ ndcs l)[0 * 5 + j]? = _
    rw [List.getElem?_append_left (by show _ < 5; omega), show 0 * 5 + j = j by omega]
    rfl
  | x :: l, i + 1, j, hi, hj => by
    show (ndc x ++ ndcs l)[(i + 1) * 5 + j]? = _
    rw [List.getElem?_append_right (by show 5 ≤ _; omega), show (i + 1) * 5 + j - (ndc x).length = i * 5 + j by show _ - 5 = _; omega, ndcs_at l i j (by simpa using hi) hj]
    rfl
/-- A slice's cells, one by one. -/
theorem Ns.cells {w : World} {A : Option Addr} {c : Nat} {l : List Nd} (h : Ns w A c l) {ad : Addr} (e : A = some ad) : ∀ j u, (ndcs l)[j]? = some u → w.cell? (ad.add j) = some u := by
  intro j u hu
  have hj := (List.getElem?_eq_some_iff.1 hu).1
  rw [ndcs_len] at hj
  obtain ⟨b, off, e2, _, hc⟩ := h.at_ (by omega)
  rw [e] at e2
  cases e2
  have hd := hc (j / 5) (by omega)
  have hs : j = j / 5 * 5 + j % 5 := by omega
  rw [hs, ndcs_at l (j / 5) (j % 5) (by omega) (by omega)] at hu
  obtain ⟨h1, h2, h3, h4, h5⟩ := hd
  have hlt : j % 5 < 5 := Nat.mod_lt _ (by omega)
  have hadd : (⟨b, off, none⟩ : Addr).add j = ⟨b, off + j, none⟩ := by simp [Addr.add]
  rw [hadd]
  generalize hq : j / 5 = q at *
  generalize hr : j % 5 = r at *
  match r, hlt with
  | 0, _ => rw [show off + j = off + q * 5 by omega, h1]; exact hu
  | 1, _ => rw [show off + j = off + q * 5 + 1 by omega, h2]; exact hu
  | 2, _ => rw [show off + j = off + q * 5 + 2 by omega, h3]; exact hu
  | 3, _ => rw [show off + j = off + q * 5 + 3 by omega, h4]; exact hu
  | 4, _ => rw [show off + j = off + q * 5 + 4 by omega, h5]; exact hu
/-- Slices of nodes that stand since a call began. -/
def Sn (w W : World) (L : List (Option Addr × Nat × List Nd)) : Prop := Below w.heap.size w W ∧ ∀ t ∈ L, Ns W t.1 t.2.1 t.2.2
theorem Sn.step {w W W' : World} {L : List (Option Addr × Nat × List Nd)} (s : Sn w W L) (b : Below W.heap.size W W') : Sn w W' L :=
  ⟨s.1.trans (b.mono s.1.size), fun t ht => (s.2 t ht).below b⟩
theorem Sn.add {w W : World} {L : List (Option Addr × Nat × List Nd)} (s : Sn w W L) {A : Option Addr} {c : Nat} {l : List Nd} (h : Ns W A c l) : Sn w W ((A, c, l) :: L) :=
  ⟨s.1, fun t ht => by
    rcases List.mem_cons.1 ht with rfl | ht
    · exact h
    · exact s.2 t ht⟩
theorem Sn.alloc {w W : World} {L : List (Option Addr × Nat × List Nd)} (s : Sn w W L) (o : Obj) : Sn w (W.alloc o) L := s.step ((Below.refl _ W).alloc (Nat.le_refl _) o)
end Go.Proofs.Ytilhnnbmplnnpaa
