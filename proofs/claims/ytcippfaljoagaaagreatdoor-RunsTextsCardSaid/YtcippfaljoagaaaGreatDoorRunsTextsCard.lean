import Derived.Test.YtcippfaljoagaaaGreatDoorHRuTt
import Derived.Test.YtcippfaljoagaaaGreatDoorTie
import Derived.Test.YtcippfaljoagaaaGreatDoorCards
import Derived.LaidMore
import Derived.Lay
import Derived.SevenTiedAt
import Derived.Stop.Joined

set_option linter.unusedVariables false
set_option linter.unusedSimpArgs false
set_option maxRecDepth 100000
set_option maxHeartbeats 6400000
namespace Go.Proofs.YtcippfaljoagaaaGreatDoor.RunsTextsCard
open Go.ChangeShapes Go.WideShapes Go.ChangeAt Go.RowKit Nds
open Go.ChangeMaps (open_string shut_string)
theorem lifted (os:Os)(started:os.Started)(H:Type)(enc:TypeId × Value→H) :
    ReturnsInHanded {} Tryz.checked os 8 .any (fun w args=>(Rows.runsTextsSpec.pre enc Tryz.prog Tryz.f8 Rows.runsTextsRow.domain false w args∧laidMetH Tryz.prog Rows.runsTextsRow.laid w)∧sizedMet enc Tryz.prog Tryz.f8 (OpenSpec.ofChange Rows.runsTextsSpec) false w args)
      (Rows.runsTextsSpec.post enc Tryz.prog Tryz.f8 false true false false):=by
  refine returnsInHanded_of_change_and (C:=Tryz.checked) (X:=fun w _=>laidMetH Tryz.prog Rows.runsTextsRow.laid w) (fun _ _ _ hh h=>h.of_heap hh) zqu started (by kernel_rfl) Tryz.func8
    (ChangeSpec.witness_shaped (enc:=enc) (C:=Tryz.checked) (os:=os) (X:=fun w _=>laidMetH Tryz.prog Rows.runsTextsRow.laid w) false (World.laidAll Tryz.prog os Rows.runsTextsRow.laid) #[.agg #[.string ⟨#[]⟩,.slice none 0 0],.agg #[.int .i64 0,.int .i64 0]] 8 (World.laidAll_os _ _ _)
      (World.shaped_of_ZipB (by kernel_rfl) (by kernel_rfl)) (by kernel_rfl) (by kernel_rfl) (by kernel_rfl)
      (by rw[MakeChecks.laidMetH_plain _ _ _ (by kernel_rfl)];exact laidMet_laidAll _ (by kernel_rfl) (by kernel_rfl))) ?_
  intro W base args ds gs before hval0 hW _ _ _ _;have hval:∀(j:Nat) t v,Tryz.f8.params[j]?=some t→args[j]?=some v→Value.okWide Tryz.prog W .any base t v:=hval0;have hW':=hW;obtain⟨p,q,hA0,hV,rfl,_,_⟩:=hW;have hA:DataW.TrodAll enc Tryz.prog W 0 (fun _=>true) true Tryz.f8.params.toList args.toList ds p:=hA0;rw[Tryz.params8] at hA hval;obtain⟨v0,v1,d0,d1,p0,p1,rfl,rfl,rfl,h0,h1⟩:=trodAll_two hA;obtain⟨rfl,rfl⟩:=trodVars_none hV;have h0k:=h0;have h1k:=h1;clear hA0 hval0;have hlt0:∀y∈p0,y.block<W.heap.size:=fun y hy=>by simpa using hW'.lt y (by simp[hy])
  have hlt1:∀y∈p1,y.block<W.heap.size:=fun y hy=>by simpa using hW'.lt y (by simp[hy])
  obtain⟨s0,A0,c0,l0,rfl,hN0,hA0,hs0⟩:=zrh (hval 0 30 v0 rfl rfl) h0;obtain⟨b1,m1,rfl,hm1⟩:=zri (hval 1 24 v1 rfl rfl) h1;refine(znL A0 c0 s0 l0 b1 m1 W hs0 hN0 hm1).mono fun e W' ⟨he,hn⟩=>?_;subst he;have r0:DataW.Trod enc Tryz.prog W' 0 (fun b=>decide (b<W.heap.size)) true 30 (.agg #[.string s0,.slice A0 l0.length c0]) d0 p0:=Below.trod zja (by kernel_rfl) (of_decide_eq_true (by kernel_rfl)) h0k hn hlt0;have r1:DataW.Trod enc Tryz.prog W' 0 (fun b=>decide (b<W.heap.size)) true 24 (.agg #[.int .i64 b1,.int .i64 m1]) d1 p1:=Below.trod zja (by kernel_rfl) (of_decide_eq_true (by kernel_rfl)) h1k hn hlt1;simp only[List.append_nil,List.nil_append] at hW';exact⟨_,rfl,_,_,_,[],_,[],hW',trodAll_mk1 (shut_bool Tryz.underlying4 true),trodAll_mk2 r0 r1,rfl,hn.frame _,fun h=>by cases h⟩
theorem named:Tryz.checked.prog.funcNamed Rows.runsTextsRow.func=some 8:=by kernel_rfl
theorem kB:(Rows.runsTextsRow.inPlace==Tryz.checked.prog.inPlace 8)=true:=by kernel_rfl
theorem kC:(Rows.runsTextsRow.unfollowed==Tryz.checked.prog.unfollowed 8)=true:=by kernel_rfl
theorem kD:(Rows.runsTextsRow.recurses==Tryz.checked.prog.recurses 8)=true:=by kernel_rfl
theorem kE:(Rows.runsTextsRow.named==Tryz.checked.prog.varsNamed 8)=true:=by kernel_rfl
theorem kG:(Rows.runsTextsRow.plainKeys==Tryz.checked.prog.plainKeys)=true:=by kernel_rfl
theorem kJ:(Rows.runsTextsRow.lifted==Tryz.checked.prog.liftsFinal)=true:=by kernel_rfl
theorem kI:Tryz.checked.prog.mayEnter=true:=by kernel_rfl
theorem zvE:joinedFacts Tryz.checked.prog 8 Tryz.f8 Rows.runsTextsSpec Rows.runsTextsRow=true:=zoO (by kernel_rfl) kB kC kD kE (by kernel_rfl) kG (by kernel_rfl) kI kJ (by kernel_rfl)
theorem zqr:Rows.RunsTextsSaid :=
 OpenClaim.holds_of_wide 8 Tryz.f8 rfl rfl rfl rfl rfl rfl rfl ⟨rfl,rfl,rfl,rfl,rfl⟩ rfl rfl rfl rfl rfl named Tryz.func8 zvE
  (of_decide_eq_true (by kernel_rfl)) (by unfold Func.isWrapper;first|(rw[if_pos (by decide +kernel)];kernel_rfl)|(rw[if_neg (by decide +kernel)];exact⟨rfl,rfl⟩))
  (fun os started H enc _=>lifted os started H enc)
theorem holds:Rows.RunsTextsCardSaid :=
 Claim7.holds_tied_plain_at .later [] Rows.runsTextsCard.laidKinds true Rows.runsTextsCard.stood.harness false zqr (fun _ h=>by cases h) (by kernel_rfl) (fun _ h=>by cases h) runsTexts_row_tie rfl ⟨rfl,rfl⟩ (by kernel_rfl) rfl
  (fun f fn hf hfn=>by
   obtain rfl:f=8:=Option.some.inj ((show Tryz.prog.funcNamed Rows.runsTextsRow.func=some 8 from named).symm.trans hf) |>.symm
   obtain rfl:fn=Tryz.f8:=(Option.some.inj (Tryz.func8.symm.trans hfn)).symm;exact⟨by kernel_rfl,fun j t ht=>by
    rw[Tryz.params8] at ht;have hm:t∈[30,24]:=by simpa using Array.mem_of_getElem? ht
    have hall:([30,24].all fun u => !Tryz.prog.wantsStandIn u)=true:=by kernel_rfl
    exact(show Tryz.prog.wantsStandIn t=false by simpa using List.all_eq_true.1 hall t hm)⟩)
  (by kernel_rfl)
end Go.Proofs.YtcippfaljoagaaaGreatDoor.RunsTextsCard
