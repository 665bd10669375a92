import Derived.Test.YtfjajpnfjjdnpaaGreatDoorTTreeTextsCardA
import Derived.Test.YtfjajpnfjjdnpaaGreatDoorTTreeTextsCardG

set_option linter.unusedVariables false
set_option linter.unusedSimpArgs false
set_option maxRecDepth 100000
set_option maxHeartbeats 6400000
namespace Go.Proofs.YtfjajpnfjjdnpaaGreatDoor.TreeTextsCard
open Go.ChangeShapes Go.WideShapes Go.ChangeAt Go.RowKit Nds
open Go.ChangeMaps (open_string shut_string)
theorem holds:Rows.TreeTextsCardSaid :=
 Claim7.holds_tied_plain_at .later [] Rows.treeTextsCard.laidKinds true Rows.treeTextsCard.stood.harness false row_holds (fun _ h=>by cases h) (by kernel_rfl) (fun _ h=>by cases h) treeTexts_row_tie rfl ⟨rfl,rfl⟩ (by kernel_rfl) rfl
  (fun f fn hf hfn=>by
   obtain rfl:f=9:=Option.some.inj ((show Tryz.prog.funcNamed Rows.treeTextsRow.func=some 9 from named).symm.trans hf) |>.symm
   obtain rfl:fn=Tryz.f9:=(Option.some.inj (Tryz.func9.symm.trans hfn)).symm;exact⟨by kernel_rfl,fun j t ht=>by
    rw[Tryz.params9] at ht;have hm:t∈[30]:=by simpa using Array.mem_of_getElem? ht
    have hall:([30].all fun u => !Tryz.prog.wantsStandIn u)=true:=by kernel_rfl
    exact(show Tryz.prog.wantsStandIn t=false by simpa using List.all_eq_true.1 hall t hm)⟩)
  goes
end Go.Proofs.YtfjajpnfjjdnpaaGreatDoor.TreeTextsCard
