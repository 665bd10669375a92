import Derived.Test.YtfjajpnfjjdnpaaGreatDoorUTreeOneCardA
import Derived.Test.YtfjajpnfjjdnpaaGreatDoorUTreeOneCardG

set_option linter.unusedVariables false
set_option linter.unusedSimpArgs false
set_option maxRecDepth 100000
set_option maxHeartbeats 6400000
namespace Go.Proofs.YtfjajpnfjjdnpaaGreatDoor.TreeOneCard
open Go.ChangeShapes Go.WideShapes Go.ChangeAt Go.RowKit Nds
open Go.ChangeMaps (open_string shut_string)
theorem holds:Rows.TreeOneCardSaid :=
 Claim7.holds_tied_plain_at .later [] Rows.treeOneCard.laidKinds true Rows.treeOneCard.stood.harness false zmx (fun _ h=>by cases h) (by kernel_rfl) (fun _ h=>by cases h) treeOne_row_tie rfl ⟨rfl,rfl⟩ (by kernel_rfl) rfl
  (fun f fn hf hfn=>by
   obtain rfl:f=11:=Option.some.inj ((show Tryz.prog.funcNamed Rows.treeOneRow.func=some 11 from named).symm.trans hf) |>.symm
   obtain rfl:fn=Tryz.f11:=(Option.some.inj (Tryz.func11.symm.trans hfn)).symm;exact⟨by kernel_rfl,fun j t ht=>by
    rw[Tryz.params11] at ht;have hm:t∈[26,26,4]:=by simpa using Array.mem_of_getElem? ht
    have hall:([26,26,4].all fun u => !Tryz.prog.wantsStandIn u)=true:=by kernel_rfl
    exact(show Tryz.prog.wantsStandIn t=false by simpa using List.all_eq_true.1 hall t hm)⟩)
  goes
end Go.Proofs.YtfjajpnfjjdnpaaGreatDoor.TreeOneCard
