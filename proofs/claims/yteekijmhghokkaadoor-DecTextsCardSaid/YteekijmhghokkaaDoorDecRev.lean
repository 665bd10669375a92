/-
  slices.Reverse at bytes of the call's own.
-/
import Derived.Test.YteekijmhghokkaaDoorDecTrim

namespace Go.Proofs.YteekijmhghokkaaDoor
set_option linter.unusedVariables false
set_option linter.unusedSimpArgs false
open Go.RowKit Num Digs
/-- So far turned: what is outside i .. j stands the other way round. -/
def Turned (bs ys : List UInt8) (i : Nat) (j : Int) : Prop :=
  ys.length = bs.length ∧ (i : Int) + j + 1 = bs.length ∧ ∀ k, k < bs.length → ys[k]? = if i ≤ k ∧ (k : Int) ≤ j then bs[k]? else bs[bs.length - 1 - k]?
theorem Turned.start (bs : List UInt8) : Turned bs bs 0 ((bs.length : Int) - 1) :=
  ⟨rfl, by omega, fun k hk => by rw [if_pos (by omega)]⟩
theorem Turned.done {bs ys : List UInt8} {i : Nat} {j : Int} (h : Turned bs ys i j) (hij : ¬ (i : Int) < j) : ys = bs.reverse := by
  obtain ⟨h1, h2, h3⟩ := h
  refine List.ext_getElem? fun k => ?_
  rcases Nat.lt_or_ge k bs.length with hk | hk
  · rw [h3 k hk, List.getElem?_reverse hk]
    split
    · rename_i h
      rw [show bs.length - 1 - k = k by omega]
    · rfl
  · rw [List.getElem?_eq_none (by omega), List.getElem?_eq_none (by simpa using hk)]
theorem Turned.next {bs ys : List UInt8} {i j : Nat} (h : Turned bs ys i j) (hij : i < j) {x y : UInt8} (hx : ys[i]? = some x) (hy : ys[j]? = some y) : Turned bs ((ys.set i y).set j x) (i + 1) ((j : Int) - 1) := by
  obtain ⟨h1, h2, h3⟩ := h
  have hi := (List.getElem?_eq_some_iff.1 hx).1
  have hj := (List.getElem?_eq_some_iff.1 hy).1
  refine ⟨by simpa using h1, by omega, fun k hk => ?_⟩
  have e1 := h3 i (by omega)
  have e2 := h3 j (by omega)
  rw [if_pos (by omega), hx] at e1
  rw [if_pos (by omega), hy] at e2
  rw [List.getElem?_set, List.getElem?_set]
  simp only [List.length_set]
  by_cases hkj : j = k
  · subst hkj
    rw [if_pos rfl, if_pos hj, if_neg (by omega), e1]
    congr 1
    omega
  · rw [if_neg hkj]
    by_cases hki : i = k
    · subst hki
      rw [if_pos rfl, if_pos hi, if_neg (by omega), e2]
      congr 1
      omega
    · rw [if_neg hki, h3 k hk]
      by_cases hc : i ≤ k ∧ (k : Int) ≤ j
      · rw [if_pos hc, if_pos (by omega)]
      · rw [if_neg hc, if_neg (by omega)]
theorem OwB.cell {w : World} {base g n c : Nat} {bs : List UInt8} (h : OwB w base (.slice (some ⟨g, 0, none⟩) n c) bs) {k : Nat} {x : UInt8} (hk : bs[k]? = some x) : w.cell? ⟨g, k, none⟩ = some (.int .u8 (x.toNat : Int)) := by
  have hl := (List.getElem?_eq_some_iff.1 hk).1
  obtain ⟨rfl, _⟩ := h.rd
  rw [World.ownsRow.cellAt h k (by omega), List.getElem?_map, hk]
  rfl
theorem OwB.set {w : World} {base g n c : Nat} {bs : List UInt8} (h : OwB w base (.slice (some ⟨g, 0, none⟩) n c) bs) (k : Nat) (x : UInt8) : OwB (w.setCell ⟨g, k, none⟩ (.int .u8 (x.toNat : Int))) base (.slice (some ⟨g, 0, none⟩) n c) (bs.set k x) := by
  obtain ⟨rfl, _⟩ := h.rd
  unfold OwB
  rw [List.map_set, List.length_set]
  exact (World.ownsRow.stored h k _).1
theorem OwB.free {w : World} {base g n c : Nat} {bs : List UInt8} (h : OwB w base (.slice (some ⟨g, 0, none⟩) n c) bs) (k : Nat) : w.frozen? ⟨g, k, none⟩ = false := by
  obtain ⟨rfl, _⟩ := h.rd
  exact World.ownsRow.frozenAt h k
theorem OwB.base {w : World} {base g n c : Nat} {bs : List UInt8} (h : OwB w base (.slice (some ⟨g, 0, none⟩) n c) bs) : base ≤ g := by
  rcases h.2 with ⟨h1, _⟩ | ⟨g', cap, cur, h1, h2, _⟩
  · cases h1
  · cases h1; exact h2
theorem OwB.shape {w : World} {base n c : Nat} {A : Option Addr} {bs : List UInt8} (h : OwB w base (.slice A n c) bs) (hn : 0 < bs.length) : ∃ g, A = some ⟨g, 0, none⟩ := by
  rcases h.2 with ⟨h1, h2⟩ | ⟨g', cap, cur, h1, h2, _⟩
  · omega
  · cases h1; exact ⟨_, rfl⟩
set_option maxRecDepth 100000 in
set_option maxHeartbeats 1600000 in
theorem reverse_any (A : Option Addr) (n c base : Nat) (bs : List UInt8) (w : World) (h : OwB w base (.slice A n c) bs) (hl : bs.length ≤ 9223372036854775807) :
    Calls Tryd.prog 27 #[.slice A n c] w fun e w' => e = .returned (.tuple #[]) ∧ OwB w' base (.slice A n c) bs.reverse ∧ Below base w w' := by
  obtain ⟨hn, _⟩ := h.rd
  have HH := Lib.hid h
  have HN := Lib.hid hn
  rw [← hn] at hl
  clear h hn
  go_enter Tryd.func27, Tryd.ntmps27
  go_wp2
  go_loopw [2, 3] (fun iv jv wr => ∃ (i : Nat) (j : Int) (ys : List UInt8), i ≤ n ∧ -1 ≤ j ∧ iv = .int .i64 i ∧ jv = .int .i64 j ∧ Turned bs ys i j ∧ OwB wr base (.slice A n c) ys ∧ Below base w wr) (fun iv _ _ => n - (intOf iv).toNat)
  case atStart => exact ⟨0, (n : Int) - 1, bs, by omega, by omega, rfl, by go_num, by rw [HN.out]; exact Turned.start bs, HH.out, Below.refl _ _⟩
  case round =>
    obtain ⟨i, j, ys, hi, hj, rfl, rfl, hT, hO, hB⟩ := hrel
    have T := Lib.hid hT
    have O := Lib.hid hO
    have B := Lib.hid hB
    have hjn : (i : Int) + j + 1 = n := by rw [HN.out]; exact hT.2.1
    have hyl : ys.length = n := by rw [hT.1]; exact HN.out.symm
    clear hT hO hB
    by_cases hlt : (i : Int) < j
    · obtain ⟨jn, rfl⟩ : ∃ jn : Nat, j = jn := ⟨j.toNat, by omega⟩
      obtain ⟨g, rfl⟩ := O.out.shape (by omega)
      have hij : i < jn := by omega
      have hjl : jn < n := by omega
      obtain ⟨x, hx⟩ : ∃ x, ys[i]? = some x := ⟨_, List.getElem?_eq_getElem (by omega)⟩
      obtain ⟨y, hy⟩ : ∃ y, ys[jn]? = some y := ⟨_, List.getElem?_eq_getElem (by omega)⟩
      have cx := O.out.cell hx
      have cy := O.out.cell hy
      have fx := O.out.free i
      have fy := O.out.free jn
      have TN := Lib.hid (T.out.next hij hx hy)
      have ON := Lib.hid ((O.out.set i y).set jn x)
      have BN := Lib.hid ((B.out.setCell (p := ⟨g, i, none⟩) O.out.base (.int .u8 (y.toNat : Int))).setCell (p := ⟨g, jn, none⟩) O.out.base (.int .u8 (x.toNat : Int)))
      have ne1 : ¬ i = jn := by omega
      have ne2 : ¬ jn = i := by omega
      have hc0 : n ≤ c := by have := O.out.rd.2.1; simp at this; omega
      have hic : i < n := by omega
      clear hx hy hyl hjn
      go_wp2_with fail
      go_region
      go_wp2_with fail
      exact ⟨⟨i + 1, (jn : Int) - 1, _, by omega, by omega, by go_num, rfl, TN.out, ON.out, below_drewN BN.out 1⟩, by simp [intOf]; omega⟩
    · have F := Lib.hid (T.out.done hlt)
      clear hjn hyl
      go_wp2
      go_end0
      exact ⟨rfl, by rw [← F.out]; exact O.out, B.out⟩
end Go.Proofs.YteekijmhghokkaaDoor
