import Derived.Test.YtfjajpnfjjdnpaaGreatDoorVRunsPaintCardA
import Derived.Test.YtfjajpnfjjdnpaaGreatDoorVRunsPaintCardG

set_option linter.unusedVariables false
set_option linter.unusedSimpArgs false
set_option maxRecDepth 100000
set_option maxHeartbeats 6400000
namespace Go.Proofs.YtfjajpnfjjdnpaaGreatDoor.RunsPaintCard
open Go.ChangeShapes Go.WideShapes Go.ChangeAt Go.RowKit Nds
open Go.ChangeMaps (open_string shut_string)
theorem holds:Rows.RunsPaintCardSaid :=
 Claim7.holds_tied_plain_at .later [] Rows.runsPaintCard.laidKinds true Rows.runsPaintCard.stood.harness false zpy (fun _ h=>by cases h) (by kernel_rfl) (fun _ h=>by cases h) runsPaint_row_tie rfl ⟨rfl,rfl⟩ (by kernel_rfl) rfl
  (fun f fn hf hfn=>by
   obtain rfl:f=8:=Option.some.inj ((show Tryz.prog.funcNamed Rows.runsPaintRow.func=some 8 from named).symm.trans hf) |>.symm
   obtain rfl:fn=Tryz.f8:=(Option.some.inj (Tryz.func8.symm.trans hfn)).symm;exact⟨by kernel_rfl,fun j t ht=>by
    rw[Tryz.params8] at ht;have hm:t∈[51]:=by simpa using Array.mem_of_getElem? ht
    have hall:([51].all fun u => !Tryz.prog.wantsStandIn u)=true:=by kernel_rfl
    exact(show Tryz.prog.wantsStandIn t=false by simpa using List.all_eq_true.1 hall t hm)⟩)
  goes
end Go.Proofs.YtfjajpnfjjdnpaaGreatDoor.RunsPaintCard
