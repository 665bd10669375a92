import Derived.Test.YtfjajpnfjjdnpaaGreatDoorWRunsOneCardA
import Derived.Test.YtfjajpnfjjdnpaaGreatDoorWRunsOneCardG

set_option linter.unusedVariables false
set_option linter.unusedSimpArgs false
set_option maxRecDepth 100000
set_option maxHeartbeats 6400000
namespace Go.Proofs.YtfjajpnfjjdnpaaGreatDoor.RunsOneCard
open Go.ChangeShapes Go.WideShapes Go.ChangeAt Go.RowKit Nds
open Go.ChangeMaps (open_string shut_string)
theorem holds:Rows.RunsOneCardSaid :=
 Claim7.holds_tied_plain_at .later [] Rows.runsOneCard.laidKinds true Rows.runsOneCard.stood.harness false zrf (fun _ h=>by cases h) (by kernel_rfl) (fun _ h=>by cases h) runsOne_row_tie rfl ⟨rfl,rfl⟩ (by kernel_rfl) rfl
  (fun f fn hf hfn=>by
   obtain rfl:f=7:=Option.some.inj ((show Tryz.prog.funcNamed Rows.runsOneRow.func=some 7 from named).symm.trans hf) |>.symm
   obtain rfl:fn=Tryz.f7:=(Option.some.inj (Tryz.func7.symm.trans hfn)).symm;exact⟨by kernel_rfl,fun j t ht=>by
    rw[Tryz.params7] at ht;have hm:t∈[22,22,4]:=by simpa using Array.mem_of_getElem? ht
    have hall:([22,22,4].all fun u => !Tryz.prog.wantsStandIn u)=true:=by kernel_rfl
    exact(show Tryz.prog.wantsStandIn t=false by simpa using List.all_eq_true.1 hall t hm)⟩)
  goes
end Go.Proofs.YtfjajpnfjjdnpaaGreatDoor.RunsOneCard
