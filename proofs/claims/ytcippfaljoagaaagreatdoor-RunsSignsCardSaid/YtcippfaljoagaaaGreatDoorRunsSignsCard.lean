import Derived.Test.YtcippfaljoagaaaGreatDoorGRuZ
import Derived.Test.YtcippfaljoagaaaGreatDoorTie
import Derived.Test.YtcippfaljoagaaaGreatDoorCards
import Derived.LaidMore
import Derived.Lay
import Derived.SevenTiedAt
import Derived.Stop.Joined

set_option linter.unusedVariables false
set_option linter.unusedSimpArgs false
set_option maxRecDepth 100000
set_option maxHeartbeats 6400000
namespace Go.Proofs.YtcippfaljoagaaaGreatDoor.RunsSignsCard
open Go.ChangeShapes Go.WideShapes Go.ChangeAt Go.RowKit Nds
open Go.ChangeMaps (open_string shut_string)
theorem lifted (os:Os)(started:os.Started)(H:Type)(enc:TypeId × Value→H) :
    ReturnsInHanded {} Tryz.checked os 7 .any (fun w args=>(Rows.runsSignsSpec.pre enc Tryz.prog Tryz.f7 Rows.runsSignsRow.domain false w args∧laidMetH Tryz.prog Rows.runsSignsRow.laid w)∧sizedMet enc Tryz.prog Tryz.f7 (OpenSpec.ofChange Rows.runsSignsSpec) false w args)
      (Rows.runsSignsSpec.post enc Tryz.prog Tryz.f7 false true false false):=by
  refine returnsInHanded_of_change_and (C:=Tryz.checked) (X:=fun w _=>laidMetH Tryz.prog Rows.runsSignsRow.laid w) (fun _ _ _ hh h=>h.of_heap hh) zpc started (by kernel_rfl) Tryz.func7
    (ChangeSpec.witness_shaped (enc:=enc) (C:=Tryz.checked) (os:=os) (X:=fun w _=>laidMetH Tryz.prog Rows.runsSignsRow.laid w) false (World.laidAll Tryz.prog os Rows.runsSignsRow.laid) #[.int .u8 0,.agg #[.bool false,.slice none 0 0,.bool false,.slice none 0 0,.slice none 0 0]] 8 (World.laidAll_os _ _ _)
      (World.shaped_of_ZipB (by kernel_rfl) (by kernel_rfl)) (by kernel_rfl) (by kernel_rfl) (by kernel_rfl)
      (by rw[MakeChecks.laidMetH_plain _ _ _ (by kernel_rfl)];exact laidMet_laidAll _ (by kernel_rfl) (by kernel_rfl))) ?_
  intro W base args ds gs before hval0 hW _ _ _ _;have hval:∀(j:Nat) t v,Tryz.f7.params[j]?=some t→args[j]?=some v→Value.okWide Tryz.prog W .any base t v:=hval0;have hW':=hW;obtain⟨p,q,hA0,hV,rfl,_,_⟩:=hW;have hA:DataW.TrodAll enc Tryz.prog W 0 (fun _=>true) true Tryz.f7.params.toList args.toList ds p:=hA0;rw[Tryz.params7] at hA hval;obtain⟨v0,v1,d0,d1,p0,p1,rfl,rfl,rfl,h0,h1⟩:=trodAll_two hA;obtain⟨rfl,rfl⟩:=trodVars_none hV;have h0k:=h0;have h1k:=h1;clear hA0 hval0;have hlt1:∀y∈p1,y.block<W.heap.size:=fun y hy=>by simpa using hW'.lt y (by simp[hy])
  obtain⟨n0,rfl,rfl,rfl,wn0⟩:=open_int Tryz.underlying5 (hval 0 5 v0 rfl rfl) h0;have n0c:0≤n0∧n0≤255:=by
    have e1:IntKind.u8.min=0:=rfl;have e2:IntKind.u8.max=255:=rfl;simp[Lit.wf,e1,e2] at wn0;omega
  obtain⟨k0,rfl⟩:∃k:Nat,n0=(k:Int):=⟨n0.toNat,by omega⟩;have n0b:k0≤255:=by omega
  obtain⟨u1,rfl,hN1⟩:=zow (hval 1 51 v1 rfl rfl) h1 hlt1;refine(zmu k0 u1 W n0b hN1).mono fun e W' ⟨he,hn⟩=>?_;subst he;have r0:DataW.Trod enc Tryz.prog W' 0 (fun b=>decide (b<W.heap.size)) true 5 (.int .u8 k0) (.lit (.int .u8 k0)) []:=Below.trod zie (by kernel_rfl) (of_decide_eq_true (by kernel_rfl)) h0k hn (fun y hy=>by cases hy);have r1:DataW.Trod enc Tryz.prog W' 0 (fun b=>decide (b<W.heap.size)) true 51 u1.val d1 p1:=Below.trod zie (by kernel_rfl) (of_decide_eq_true (by kernel_rfl)) h1k hn hlt1;simp only[List.append_nil,List.nil_append] at hW';exact⟨_,rfl,_,_,_,[],_,[],hW',trodAll_mk1 (shut_bool Tryz.underlying4 true),trodAll_mk2 r0 r1,rfl,hn.frame _,fun h=>by cases h⟩
theorem named:Tryz.checked.prog.funcNamed Rows.runsSignsRow.func=some 7:=by kernel_rfl
theorem kB:(Rows.runsSignsRow.inPlace==Tryz.checked.prog.inPlace 7)=true:=by kernel_rfl
theorem kC:(Rows.runsSignsRow.unfollowed==Tryz.checked.prog.unfollowed 7)=true:=by kernel_rfl
theorem kD:(Rows.runsSignsRow.recurses==Tryz.checked.prog.recurses 7)=true:=by kernel_rfl
theorem kE:(Rows.runsSignsRow.named==Tryz.checked.prog.varsNamed 7)=true:=by kernel_rfl
theorem kG:(Rows.runsSignsRow.plainKeys==Tryz.checked.prog.plainKeys)=true:=by kernel_rfl
theorem kJ:(Rows.runsSignsRow.lifted==Tryz.checked.prog.liftsFinal)=true:=by kernel_rfl
theorem kI:Tryz.checked.prog.mayEnter=true:=by kernel_rfl
theorem ztR:joinedFacts Tryz.checked.prog 7 Tryz.f7 Rows.runsSignsSpec Rows.runsSignsRow=true:=zox (by kernel_rfl) kB kC kD kE (by kernel_rfl) kG (by kernel_rfl) kI kJ (by kernel_rfl)
theorem zoY:Rows.RunsSignsSaid :=
 OpenClaim.holds_of_wide 7 Tryz.f7 rfl rfl rfl rfl rfl rfl rfl ⟨rfl,rfl,rfl,rfl,rfl⟩ rfl rfl rfl rfl rfl named Tryz.func7 ztR
  (of_decide_eq_true (by kernel_rfl)) (by unfold Func.isWrapper;first|(rw[if_pos (by decide +kernel)];kernel_rfl)|(rw[if_neg (by decide +kernel)];exact⟨rfl,rfl⟩))
  (fun os started H enc _=>lifted os started H enc)
theorem holds:Rows.RunsSignsCardSaid :=
 Claim7.holds_tied_plain_at .later [] Rows.runsSignsCard.laidKinds true Rows.runsSignsCard.stood.harness false zoY (fun _ h=>by cases h) (by kernel_rfl) (fun _ h=>by cases h) runsSigns_row_tie rfl ⟨rfl,rfl⟩ (by kernel_rfl) rfl
  (fun f fn hf hfn=>by
   obtain rfl:f=7:=Option.some.inj ((show Tryz.prog.funcNamed Rows.runsSignsRow.func=some 7 from named).symm.trans hf) |>.symm
   obtain rfl:fn=Tryz.f7:=(Option.some.inj (Tryz.func7.symm.trans hfn)).symm;exact⟨by kernel_rfl,fun j t ht=>by
    rw[Tryz.params7] at ht;have hm:t∈[5,51]:=by simpa using Array.mem_of_getElem? ht
    have hall:([5,51].all fun u => !Tryz.prog.wantsStandIn u)=true:=by kernel_rfl
    exact(show Tryz.prog.wantsStandIn t=false by simpa using List.all_eq_true.1 hall t hm)⟩)
  (by kernel_rfl)
end Go.Proofs.YtcippfaljoagaaaGreatDoor.RunsSignsCard
