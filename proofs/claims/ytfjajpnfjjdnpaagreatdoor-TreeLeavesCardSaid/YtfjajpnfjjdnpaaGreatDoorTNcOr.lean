import Derived.Test.YtfjajpnfjjdnpaaGreatDoorTNcPB

set_option linter.unusedVariables false
set_option linter.unusedSimpArgs false
set_option maxRecDepth 100000
set_option maxHeartbeats 6400000
namespace Go.Proofs.YtfjajpnfjjdnpaaGreatDoor
open Go.RowKit Nds
theorem OwnN.mono {w:World}{base b:Nat}{v:Value}{l:List Nd}(h:OwnN w base v l)(hb:b≤base):OwnN w b v l:=by
 refine⟨h.1,h.2.1,?_⟩;rcases h.2.2 with h2|⟨g,cap,cur,hv,hg,r⟩
 ·exact .inl h2
 ·exact .inr ⟨g,cap,cur,hv,Nat.le_trans hb hg,r⟩
theorem zeB {w:World}{g:Nat}{u:Value}{t:TypeId}(h:w.heap[g]?=some (.cells #[u] t)):w.cell? ⟨g,0,none⟩=some u:=by
 rw[cell_of_row w g _ _ _ _ h];rfl
end Go.Proofs.YtfjajpnfjjdnpaaGreatDoor
