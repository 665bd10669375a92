/-
  look: LookOne, the walk.
-/
import Derived.Test.YtdmkiioimmmlbaaGLkWc

namespace Go.Proofs.Ytdmkiioimmmlbaa
set_option maxRecDepth 100000
set_option linter.unusedVariables false
set_option linter.unusedSimpArgs false
open Go.RowKit Num Nds
theorem Ac.put {w W : World} {L : List (Option Addr × Nat × List Nd)} {M : List (Nat × Value)} {C : List (Nat × Cv)} (s : Ac w W L M C) {g : Nat} {v : Value} (h : W.heap[g]? = some (.cells #[v] 31)) : Ac w W L ((g, v) :: M) C :=
 ⟨⟨s.al.sn, fun t ht => by
  rcases List.mem_cons.1 ht with rfl | ht
  ·
   exact h
  ·
   exact s.al.bx t ht⟩, s.cb⟩
end Go.Proofs.Ytdmkiioimmmlbaa
