/-
  node: empty, Empty.
-/
import Derived.Test.YtbcolelgbbmjkaaNdMap

namespace Go.Proofs.Ytbcolelgbbmjkaa
set_option linter.unusedVariables false
set_option linter.unusedSimpArgs false
open Go.RowKit Nds
theorem gb_refl (w : World) (r : Option Nat) : w.grownBy w r := ⟨rfl, rfl, rfl, Nat.le_refl _, fun _ _ _ => rfl⟩
theorem gb_trans {a b c : World} {r : Option Nat} (h : a.grownBy b r) (k : b.grownBy c r) : a.grownBy c r :=
  ⟨k.os.trans h.os, k.tape.trans h.tape, k.output.trans h.output, Nat.le_trans h.size k.size, fun i hi hr => (k.block i (Nat.lt_of_lt_of_le hi h.size) hr).trans (h.block i hi hr)⟩
/-- Nodes stand while a map is written. -/
theorem Ns.gb {w w' : World} {A : Option Addr} {c : Nat} {l : List Nd} {b : Nat} (h : Ns w A c l) (hA : ∀ a, A = some a → a.block ≠ b) (hg : w.grownBy w' (some b)) : Ns w' A c l :=
  ⟨h.1, h.2.1, h.2.2.1, fun hn => by
    obtain ⟨g, off, e, hlt, hc⟩ := h.2.2.2 hn
    have hne : g ≠ b := hA _ e
    exact ⟨g, off, e, Nat.lt_of_lt_of_le hlt hg.size, fun i hi => (hc i hi).below (hg.block g hlt (fun e => hne (by cases e; rfl)))⟩⟩
end Go.Proofs.Ytbcolelgbbmjkaa
