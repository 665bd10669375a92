import Derived.Test.YtbabbmdpgpcgjaaGreatDoorHPlainNoiseCardA
import Derived.Test.YtbabbmdpgpcgjaaGreatDoorHPlainNoiseCardG

set_option linter.unusedVariables false
set_option linter.unusedSimpArgs false
set_option maxRecDepth 100000
set_option maxHeartbeats 6400000
namespace Go.Proofs.YtbabbmdpgpcgjaaGreatDoor.PlainNoiseCard
open Go.ChangeShapes Go.WideShapes Go.ChangeAt Go.RowKit Nds
open Go.ChangeMaps (open_string shut_string)
theorem holds:Rows.PlainNoiseCardSaid :=
 Claim7.holds_tied_plain_at .later [] Rows.plainNoiseCard.laidKinds true Rows.plainNoiseCard.stood.harness Rows.plainNoiseCard.stood.looks zsA (fun _ h=>by cases h) (by kernel_rfl) (fun _ h=>by cases h) plainNoise_row_tie rfl ⟨rfl,rfl⟩ (by kernel_rfl) rfl
  (fun f fn hf hfn=>by
   obtain rfl:f=5:=Option.some.inj ((show Tryz.prog.funcNamed Rows.plainNoiseRow.func=some 5 from named).symm.trans hf) |>.symm
   obtain rfl:fn=Tryz.f5:=(Option.some.inj (Tryz.func5.symm.trans hfn)).symm;exact⟨by kernel_rfl,fun j t ht=>by
    rw[Tryz.params5] at ht;have hm:t∈[9,5]:=by simpa using Array.mem_of_getElem? ht
    have hall:([9,5].all fun u => !Tryz.prog.wantsStandIn u)=true:=by kernel_rfl
    exact(show Tryz.prog.wantsStandIn t=false by simpa using List.all_eq_true.1 hall t hm)⟩)
  goes
end Go.Proofs.YtbabbmdpgpcgjaaGreatDoor.PlainNoiseCard
