/-
  node: the reference's Loose.
-/
import Derived.Test.YtilhnnbmplnnpaaNdFits
import Derived.IntWalk

namespace Go.Proofs.Ytilhnnbmplnnpaa
set_option linter.unusedVariables false
set_option linter.unusedSimpArgs false
open Go.RowKit Nds
theorem NdAt.kid {w : World} {b o : Nat} {x : Nd} (h : NdAt w b o x) {q : Nat} (hq : q < 4) : w.cell? ⟨b, o + 1 + q, none⟩ = some (.int .i64 (x.kid q)) := by
  obtain ⟨h1, h2, h3, h4, h5⟩ := h
  match q, hq with
  | 0, _ => exact h2
  | 1, _ => exact h3
  | 2, _ => exact h4
  | 3, _ => exact h5
theorem Ns.drewN {w : World} {A : Option Addr} {c : Nat} {l : List Nd} (h : Ns w A c l) (m : Nat) : Ns (w.drewN m) A c l := h
end Go.Proofs.Ytilhnnbmplnnpaa
