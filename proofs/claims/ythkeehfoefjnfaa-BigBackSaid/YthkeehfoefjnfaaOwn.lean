/-
  Rows of limbs that the call made itself.
-/
import Derived.Test.YthkeehfoefjnfaaMem
import Derived.OwnWalk
namespace Go.Proofs.Ythkeehfoefjnfaa
set_option linter.unusedVariables false
set_option linter.unusedSimpArgs false
open Go.RowKit Num

theorem ownsRow_below {w w' : World} {base : Nat} {e : TypeId} {size : Nat} {v : Value} {n : Nat} {xs : List Value} (h : w.ownsRow base e size v n xs) (hb : Below w.heap.size w w') : w'.ownsRow base e size v n xs := by
  refine ⟨h.1, ?_⟩
  rcases h.2 with h1 | ⟨g, cap, cur, h1, h2, h3, h4⟩
  · exact .inl h1
  · refine .inr ⟨g, cap, cur, h1, h2, (hb.block g ?_).trans h3, h4⟩
    rcases Nat.lt_or_ge g w.heap.size with hlt | hge
    · exact hlt
    · rw [Array.getElem?_eq_none hge] at h3; cases h3

/-- Block g is a row of n limbs, rs, made by the call. -/
def OwnU (w : World) (base g n : Nat) (rs : List Nat) : Prop :=
  Dig rs ∧ rs.length = n ∧ w.ownsRow base 35 1 (.slice (some ⟨g, 0, none⟩) n n) n (rs.map u32v)

theorem OwnU.base {w : World} {base g n : Nat} {rs : List Nat} (h : OwnU w base g n rs) : base ≤ g := by
  rcases h.2.2.2 with ⟨h1, _⟩ | ⟨g', cap, cur, h1, h2, h3, h4⟩
  · cases h1
  · simp only [Value.slice.injEq, Option.some.injEq, Addr.mk.injEq, and_true, true_and] at h1
    obtain ⟨rfl, rfl⟩ := h1
    exact h2
theorem OwnU.lt {w : World} {base g n : Nat} {rs : List Nat} (h : OwnU w base g n rs) : g < w.heap.size := by
  rcases h.2.2.2 with ⟨h1, _⟩ | ⟨g', cap, cur, h1, h2, h3, h4⟩
  · cases h1
  · simp only [Value.slice.injEq, Option.some.injEq, Addr.mk.injEq, and_true, true_and] at h1
    obtain ⟨rfl, rfl⟩ := h1
    rcases Nat.lt_or_ge g w.heap.size with hlt | hge
    · exact hlt
    · rw [Array.getElem?_eq_none hge] at h3; cases h3
theorem OwnU.cell {w : World} {base g n : Nat} {rs : List Nat} (h : OwnU w base g n rs) {k : Nat} (hk : k < n) : w.cell? ⟨g, k, none⟩ = some (.int .u32 (rs[k]?.getD 0 : Nat)) := by
  have hl : k < rs.length := by have := h.2.1; omega
  rw [h.2.2.cellAt k (by omega), List.getElem?_map, List.getElem?_eq_getElem hl]
  rfl
theorem OwnU.free {w : World} {base g n : Nat} {rs : List Nat} (h : OwnU w base g n rs) (k : Nat) : w.frozen? ⟨g, k, none⟩ = false := h.2.2.frozenAt k
theorem OwnU.set {w : World} {base g n : Nat} {rs : List Nat} (h : OwnU w base g n rs) (k : Nat) {u : Nat} (hu : u < 4294967296) : OwnU (w.setCell ⟨g, k, none⟩ (.int .u32 (u : Int))) base g n (rs.set k u) := by
  refine ⟨h.1.set k hu, by simpa using h.2.1, ?_⟩
  rw [List.map_set]
  exact (h.2.2.stored k _).1
theorem OwnU.below {w w' : World} {base g n : Nat} {rs : List Nat} (h : OwnU w base g n rs) (hb : Below w.heap.size w w') : OwnU w' base g n rs := ⟨h.1, h.2.1, ownsRow_below h.2.2 hb⟩
theorem OwnU.reads {w : World} {base g n : Nat} {rs : List Nat} (h : OwnU w base g n rs) : Us w (some ⟨g, 0, none⟩) n rs := ⟨h.1, Rd.own h.2.2⟩
theorem OwnU.drew {w : World} {base g n : Nat} {rs : List Nat} (h : OwnU w base g n rs) : OwnU w.drew base g n rs := h
/-- A store elsewhere. -/
theorem OwnU.far {w : World} {base g n : Nat} {rs : List Nat} (h : OwnU w base g n rs) {p : Addr} (hp : p.block ≠ g) (u : Value) : OwnU (w.setCell p u) base g n rs := by
  refine ⟨h.1, h.2.1, h.2.2.1, ?_⟩
  rcases h.2.2.2 with ⟨h1, _⟩ | ⟨g', cap, cur, h1, h2, h3, h4⟩
  · cases h1
  · simp only [Value.slice.injEq, Option.some.injEq, Addr.mk.injEq, and_true, true_and] at h1
    obtain ⟨rfl, rfl⟩ := h1
    exact .inr ⟨g, n, cur, rfl, h2, (Below.heap_setCell w p u g (fun e => hp e.symm)).trans h3, h4⟩
theorem madeU (n : Nat) : (madeCells (Value.cells (.int .u32 0)) (n * 1)).toList = (List.replicate n 0).map u32v := by
  rw [Nat.mul_one]
  refine List.ext_getElem (by simp [madeCells]) fun i h1 h2 => ?_
  simp [madeCells, Value.cells, Nat.mod_one]
theorem OwnU.made {w : World} {base g n : Nat} (h : w.ownsRow base 35 1 (.slice (some ⟨g, 0, none⟩) n n) n (madeCells (Value.cells (.int .u32 0)) (n * 1)).toList) : OwnU w base g n (List.replicate n 0) :=
  ⟨Dig.replicate n, by simp, by rw [← madeU]; exact h⟩

theorem val_take_set {rs : List Nat} {k : Nat} (u : Nat) (hk : k < rs.length) : val ((rs.set k u).take (k + 1)) = val (rs.take k) + 4294967296 ^ k * u := by
  rw [val_take_succ (by simpa using hk), List.take_set_of_le (by omega), List.getElem?_set]
  simp [hk]
theorem take_all {rs : List Nat} {n : Nat} (h : rs.length = n) : rs.take n = rs := List.take_of_length_le (by omega)

end Go.Proofs.Ythkeehfoefjnfaa
