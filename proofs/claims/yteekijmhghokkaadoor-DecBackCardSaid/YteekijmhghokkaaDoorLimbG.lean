/-
  What the laws ask first: the document's example.
  LimbShifts holds of every input.
  LimbSums holds of every input.
-/
import Derived.Test.YteekijmhghokkaaDoorLimbD
import Derived.Test.YteekijmhghokkaaDoorLimbB
import Derived.Test.YteekijmhghokkaaDoorLimbZ
import Derived.Test.YteekijmhghokkaaDoorRows
import Derived.Lib.Strings
import Derived.Lib.Slices
import Derived.Lib.Small
import Derived.Lib.Walk
import Derived.Lib.BitFns
import Derived.Test.YteekijmhghokkaaDoorLimbA
import Derived.Test.YteekijmhghokkaaDoorLimbC
import Derived.Test.YteekijmhghokkaaDoorLimbE
import Derived.Test.YteekijmhghokkaaDoorLimbF

namespace Go.Proofs.YteekijmhghokkaaDoor
set_option linter.unusedVariables false
set_option linter.unusedSimpArgs false
open Go.RowKit Num
/-- Slices that stand as they stood, and what lay below is as it was. -/
def St (w W : World) (l : List (Option Addr × Nat × List Nat)) : Prop := Below w.heap.size w W ∧ ∀ t ∈ l, Us W t.1 t.2.1 t.2.2
theorem St.start (w : World) : St w w [] := ⟨Below.refl _ _, by simp⟩
theorem St.get {w W : World} {l : List (Option Addr × Nat × List Nat)} (s : St w W l) {A : Option Addr} {c : Nat} {xs : List Nat} (h : (A, c, xs) ∈ l) : Us W A c xs := s.2 _ h
theorem St.step {w W W' : World} {l : List (Option Addr × Nat × List Nat)} (s : St w W l) (b : Below W.heap.size W W') : St w W' l :=
  ⟨s.1.trans (b.mono s.1.size), fun t ht => (s.2 t ht).below b⟩
theorem St.add {w W : World} {l : List (Option Addr × Nat × List Nat)} (s : St w W l) {A : Option Addr} {c : Nat} {xs : List Nat} (h : Us W A c xs) : St w W ((A, c, xs) :: l) :=
  ⟨s.1, fun t ht => by
    rcases List.mem_cons.1 ht with rfl | ht
    · exact h
    · exact s.2 t ht⟩
theorem St.call {w W W' : World} {l : List (Option Addr × Nat × List Nat)} (s : St w W l) (b : Below W.heap.size W W') {A : Option Addr} {c : Nat} {xs : List Nat} (h : Us W' A c xs) : St w W' ((A, c, xs) :: l) := (s.step b).add h
theorem St.alloc {w W : World} {l : List (Option Addr × Nat × List Nat)} (s : St w W l) (o : Obj) : St w (W.alloc o) l := s.step ((Below.refl _ W).alloc (Nat.le_refl _) o)
/-- The answer is this very number. -/
def IsU (zs : List Nat) (w : World) (e : Ending) (w' : World) : Prop := ∃ A c, e = .returned (.slice A zs.length c) ∧ Us w' A c zs ∧ Below w.heap.size w w'
theorem RetU.is {n : Nat} {w : World} {e : Ending} {w' : World} (h : RetU n w e w') (zs : List Nat) (hc : Canon zs) (hd : Dig zs) (hv : val zs = n) : IsU zs w e w' := by
  obtain ⟨A, c, rs, rfl, q, k, v, b⟩ := h
  obtain rfl := uniq q.1 hd k hc (v.trans hv.symm)
  exact ⟨A, c, rfl, q, b⟩
theorem RetD.is {n r : Nat} {w : World} {e : Ending} {w' : World} (h : RetD n r w e w') (zs : List Nat) (hc : Canon zs) (hd : Dig zs) (hv : val zs = n) :
    ∃ A c, e = .returned (.tuple #[.slice A zs.length c, .int .u32 (r : Int)]) ∧ Us w' A c zs ∧ Below w.heap.size w w' := by
  obtain ⟨A, c, rs, rfl, q, k, v, b⟩ := h
  obtain rfl := uniq q.1 hd k hc (v.trans hv.symm)
  exact ⟨A, c, rfl, q, b⟩
end Go.Proofs.YteekijmhghokkaaDoor

namespace Go.Proofs.YteekijmhghokkaaDoor
set_option linter.unusedVariables false
set_option linter.unusedSimpArgs false
open Go.RowKit Num
/-- What the shifts answer, whatever the number of places. -/
def shlN (x : Nat) (n : Int) : Nat := if 0 ≤ n ∧ n ≤ 10000 then x * 2 ^ n.toNat else 0
theorem rshl_z (A : Option Addr) (c : Nat) (xs : List Nat) (n : Int) (w : World) (h : Us w A c xs) (hl : xs.length ≤ 100000) :
    Calls Tryd.prog 43 #[.slice A xs.length c, .int .i64 n] w (RetU (shlN (val xs) n) w) := by
  unfold shlN
  by_cases hn : 0 ≤ n ∧ n ≤ 10000
  · rw [if_pos hn]
    obtain ⟨k, rfl⟩ : ∃ k : Nat, n = (k : Int) := ⟨n.toNat, by omega⟩
    exact rshl_yes A c xs k w h (by omega) (by omega)
  · rw [if_neg hn]
    exact rshl_no A c xs.length n w (by omega)
theorem pow_32 (m : Nat) : (4294967296 : Nat) ^ m = 2 ^ (32 * m) := by
  rw [Nat.pow_mul]
end Go.Proofs.YteekijmhghokkaaDoor

namespace Go.Proofs.YteekijmhghokkaaDoor
set_option linter.unusedVariables false
set_option linter.unusedSimpArgs false
open Go.RowKit Num
def lebN (m n : Nat) : Bool := decide (n ≤ m)
theorem RetS.all {m n : Nat} {w : World} {e : Ending} {w' : World} (h : RetS m n w e w') :
    ∃ A c rs, e = .returned (.tuple #[.slice A rs.length c, .bool (lebN m n)]) ∧ Us w' A c rs ∧ Canon rs ∧ val rs = m - n ∧ Below w.heap.size w w' := by
  rcases Nat.lt_or_ge m n with hlt | hge
  · obtain ⟨rfl, b⟩ := h.1 hlt
    refine ⟨none, 0, [], ?_, Us.nil _, canon_nil, ?_, b⟩
    · rw [show lebN m n = false from decide_eq_false (by omega)]
      rfl
    · rw [Nat.sub_eq_zero_of_le (by omega)]
      rfl
  · obtain ⟨A, c, rs, rfl, q, k, v, b⟩ := h.2 hge
    exact ⟨A, c, rs, by rw [show lebN m n = true from decide_eq_true hge], q, k, v, b⟩
end Go.Proofs.YteekijmhghokkaaDoor
