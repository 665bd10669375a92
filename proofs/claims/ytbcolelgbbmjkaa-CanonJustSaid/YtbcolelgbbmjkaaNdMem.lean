/-
  node: slices of nodes in memory.
-/
import Derived.Test.YtbcolelgbbmjkaaNds
import Derived.Test.YtbcolelgbbmjkaaRows
import Derived.WalkKit
import Derived.WalkSpells
import Derived.WalkLawsBesides
import Derived.Deep.Draws
import Derived.Lib.Hide
import Derived.Deep.QuietTactic
import Derived.BigQuiet
import Derived.LoopTactic

namespace Go.Proofs.Ytbcolelgbbmjkaa
set_option linter.unusedVariables false
set_option linter.unusedSimpArgs false
open Go.RowKit Nds
abbrev ndv (x : Nd) : Value := .agg #[.int .i64 x.lv, .int .i64 x.a, .int .i64 x.b, .int .i64 x.c, .int .i64 x.d]
/-- A node's cells at an address. -/
def NdAt (w : World) (b o : Nat) (x : Nd) : Prop :=
  w.cell? ⟨b, o, none⟩ = some (.int .i64 x.lv) ∧ w.cell? ⟨b, o + 1, none⟩ = some (.int .i64 x.a) ∧ w.cell? ⟨b, o + 2, none⟩ = some (.int .i64 x.b) ∧ w.cell? ⟨b, o + 3, none⟩ = some (.int .i64 x.c) ∧ w.cell? ⟨b, o + 4, none⟩ = some (.int .i64 x.d)
/-- A slice reads as a list of nodes. -/
def Ns (w : World) (A : Option Addr) (c : Nat) (l : List Nd) : Prop :=
  (∀ x ∈ l, x.wf) ∧ l.length ≤ c ∧ c ≤ maxLen ∧ (0 < l.length → ∃ b off, A = some ⟨b, off, none⟩ ∧ b < w.heap.size ∧ ∀ i, i < l.length → NdAt w b (off + i * 5) (at_ l i))
theorem NdAt.below {w w' : World} {b o : Nat} {x : Nd} (h : NdAt w b o x) (hb : w'.heap[b]? = w.heap[b]?) : NdAt w' b o x := by
  obtain ⟨h1, h2, h3, h4, h5⟩ := h
  exact ⟨(World.cell?_of_block (w := w) hb).trans h1, (World.cell?_of_block (w := w) hb).trans h2, (World.cell?_of_block (w := w) hb).trans h3, (World.cell?_of_block (w := w) hb).trans h4, (World.cell?_of_block (w := w) hb).trans h5⟩
theorem Ns.below {w w' : World} {A : Option Addr} {c : Nat} {l : List Nd} (h : Ns w A c l) (hb : Below w.heap.size w w') : Ns w' A c l :=
  ⟨h.1, h.2.1, h.2.2.1, fun hn => by
    obtain ⟨b, off, e, hlt, hc⟩ := h.2.2.2 hn
    exact ⟨b, off, e, Nat.lt_of_lt_of_le hlt hb.size, fun i hi => (hc i hi).below (hb.block b hlt)⟩⟩
theorem nd_b {a b : Bool} (h : a = b) : Ending.returned (.bool a) = .returned (.bool b) := by rw [h]
theorem kidB_one (l : List Nd) (k : Int) : kidB l 1 k = decide (0 ≤ k ∧ k ≤ 255) := rfl
theorem kidB_zero (l : List Nd) (v : Int) (hv : v ≠ 1) : kidB l v 0 = true := by
  unfold kidB
  rw [if_neg hv]
  exact decide_eq_true (.inl rfl)
theorem kidB_out (l : List Nd) (v k : Int) (hv : v ≠ 1) (hk : k < 0 ∨ (l.length : Int) < k) : kidB l v k = false := by
  unfold kidB
  rw [if_neg hv]
  exact decide_eq_false (by omega)
theorem kidB_in (l : List Nd) (v : Int) (m : Nat) (hv : v ≠ 1) (hk : m < l.length) : kidB l v ((m : Int) + 1) = decide ((at_ l m).lv = v - 1) := by
  unfold kidB
  rw [if_neg hv]
  have e : ((m : Int) + 1).toNat - 1 = m := by omega
  rw [e]
  refine decide_eq_decide.2 ⟨fun h => ?_, fun h => .inr ⟨by omega, by omega, h⟩⟩
  rcases h with h | h
  · omega
  · exact h.2.2
theorem Ns.at_ {w : World} {A : Option Addr} {c : Nat} {l : List Nd} (h : Ns w A c l) (hn : 0 < l.length) :
    ∃ b off, A = some ⟨b, off, none⟩ ∧ b < w.heap.size ∧ ∀ i, i < l.length → NdAt w b (off + i * 5) (at_ l i) := h.2.2.2 hn
theorem Ns.cap {w : World} {A : Option Addr} {c : Nat} {l : List Nd} (h : Ns w A c l) : l.length ≤ c ∧ c ≤ 9223372036854775807 := by
  have h1 := h.2.1
  have h2 := h.2.2.1
  simp only [maxLen] at h2
  exact ⟨h1, by omega⟩
theorem Ns.wf {w : World} {A : Option Addr} {c : Nat} {l : List Nd} (h : Ns w A c l) {i : Nat} (hi : i < l.length) : (Nds.at_ l i).wf := h.1 _ (at_mem hi)
set_option maxRecDepth 100000 in
set_option maxHeartbeats 1600000 in
theorem kidFits_any (A : Option Addr) (c : Nat) (l : List Nd) (v k : Int) (w : World) (h : Ns w A c l) (hv : 1 ≤ v ∧ v ≤ 1329) (hk : in64 k) :
    Calls Try.prog 32 #[.slice A l.length c, .int .i64 v, .int .i64 k] w fun e w' => e = .returned (.bool (kidB l v k)) ∧ w = w' := by
  obtain ⟨hk1, hk2⟩ := hk
  have hcap := h.cap
  by_cases h1 : v = 1
  · subst h1
    rw [kidB_one]
    go_enter Try.func32, Try.ntmps32
    clear h
    rcases (show k < 0 ∨ (0 ≤ k ∧ k ≤ 255) ∨ (0 ≤ k ∧ 255 < k) by omega) with h | h | h
    all_goals
      go_wp2
      go_ret
      refine ⟨nd_b ?_, rfl⟩
      simp
      omega
  · have t1 : ((v : Int) == 1) = false := beq_eq_false_iff_ne.2 h1
    rcases (show k = 0 ∨ k < 0 ∨ (0 < k ∧ (l.length : Int) < k) ∨ (0 < k ∧ k ≤ (l.length : Int)) by omega) with h2 | h2 | h2 | h2
    · subst h2
      rw [kidB_zero _ _ h1]
      clear h h1
      go_enter Try.func32, Try.ntmps32
      go_wp2
      go_ret
      exact ⟨rfl, rfl⟩
    · rw [kidB_out _ _ _ h1 (.inl h2)]
      have t2 : ((k : Int) == 0) = false := beq_eq_false_iff_ne.2 (by omega)
      clear h h1
      go_enter Try.func32, Try.ntmps32
      go_wp2
      go_ret
      exact ⟨rfl, rfl⟩
    · rw [kidB_out _ _ _ h1 (.inr h2.2)]
      have t2 : ((k : Int) == 0) = false := beq_eq_false_iff_ne.2 (by omega)
      obtain ⟨h2, h3⟩ := h2
      clear h h1
      go_enter Try.func32, Try.ntmps32
      go_wp2
      go_ret
      exact ⟨rfl, rfl⟩
    · obtain ⟨m, rfl⟩ : ∃ m : Nat, k = (m : Int) + 1 := ⟨(k - 1).toNat, by omega⟩
      have hm : m < l.length := by omega
      rw [kidB_in _ _ _ h1 hm]
      obtain ⟨b, off, rfl, hb, hc⟩ := h.at_ (by omega)
      have c1 := (hc m hm).1
      have t2 : (((m : Int) + 1) == 0) = false := beq_eq_false_iff_ne.2 (by omega)
      have i1 : (m : Int) < (l.length : Int) := by omega
      generalize (at_ l m).lv = u at *
      clear h h1 hc
      go_enter Try.func32, Try.ntmps32
      by_cases hu : u = v - 1
      · have t3 : (u == v - 1) = true := by rw [beq_iff_eq]; exact hu
        rw [decide_eq_true hu]
        clear hu
        go_wp2
        go_ret
        exact ⟨rfl, rfl⟩
      · have t3 : (u == v - 1) = false := beq_eq_false_iff_ne.2 hu
        rw [decide_eq_false hu]
        clear hu
        go_wp2
        go_ret
        exact ⟨rfl, rfl⟩
end Go.Proofs.Ytbcolelgbbmjkaa
