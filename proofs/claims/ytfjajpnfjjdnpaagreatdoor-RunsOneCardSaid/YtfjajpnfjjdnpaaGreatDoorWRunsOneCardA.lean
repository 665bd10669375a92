import Derived.Test.YtfjajpnfjjdnpaaGreatDoorWRuOw
import Derived.Test.YtfjajpnfjjdnpaaGreatDoorTie
import Derived.LaidMore
import Derived.Lay
import Derived.SevenTiedAt
import Derived.Stop.Joined

set_option linter.unusedVariables false
set_option linter.unusedSimpArgs false
set_option maxRecDepth 100000
set_option maxHeartbeats 6400000
namespace Go.Proofs.YtfjajpnfjjdnpaaGreatDoor.RunsOneCard
open Go.ChangeShapes Go.WideShapes Go.ChangeAt Go.RowKit Nds
open Go.ChangeMaps (open_string shut_string)
theorem lifted (os:Os)(started:os.Started)(H:Type)(enc:TypeId × Value→H) :
    ReturnsInHanded {} Tryz.checked os 7 .any (fun w args=>(Rows.runsOneSpec.pre enc Tryz.prog Tryz.f7 Rows.runsOneRow.domain false w args∧laidMetH Tryz.prog Rows.runsOneRow.laid w)∧sizedMet enc Tryz.prog Tryz.f7 (OpenSpec.ofChange Rows.runsOneSpec) false w args)
      (Rows.runsOneSpec.post enc Tryz.prog Tryz.f7 false true false false):=by
  refine returnsInHanded_of_change_and (C:=Tryz.checked) (X:=fun w _=>laidMetH Tryz.prog Rows.runsOneRow.laid w) (fun _ _ _ hh h=>h.of_heap hh) zrj started (by kernel_rfl) Tryz.func7
    (ChangeSpec.witness_shaped (enc:=enc) (C:=Tryz.checked) (os:=os) (X:=fun w _=>laidMetH Tryz.prog Rows.runsOneRow.laid w) false (World.laidAll Tryz.prog os Rows.runsOneRow.laid) #[.slice none 0 0,.slice none 0 0,.bool false] 8 (World.laidAll_os _ _ _)
      (World.shaped_of_ZipB (by kernel_rfl) (by kernel_rfl)) (by kernel_rfl) (by kernel_rfl) (by kernel_rfl)
      (by rw[MakeChecks.laidMetH_plain _ _ _ (by kernel_rfl)];exact laidMet_laidAll _ (by kernel_rfl) (by kernel_rfl))) ?_
  intro W base args ds gs before hval0 hW _ _ _ _;have hval:∀(j:Nat) t v,Tryz.f7.params[j]?=some t→args[j]?=some v→Value.okWide Tryz.prog W .any base t v:=hval0;have hW':=hW;obtain⟨p,q,hA0,hV,rfl,_,_⟩:=hW;have hA:DataW.TrodAll enc Tryz.prog W 0 (fun _=>true) true Tryz.f7.params.toList args.toList ds p:=hA0;rw[Tryz.params7] at hA hval;obtain⟨v0,v1,v2,d0,d1,d2,p0,p1,p2,rfl,rfl,rfl,h0,h1,h2⟩:=trodAll_three hA;obtain⟨rfl,rfl⟩:=trodVars_none hV;have h0k:=h0;have h1k:=h1;have h2k:=h2;clear hA0 hval0;have hlt0:∀y∈p0,y.block<W.heap.size:=fun y hy=>by simpa using hW'.lt y (by simp[hy])
  have hlt1:∀y∈p1,y.block<W.heap.size:=fun y hy=>by simpa using hW'.lt y (by simp[hy])
  obtain⟨A0,c0,l0,rfl,hN0,hA0⟩:=zpd (hval 0 22 v0 rfl rfl) h0 hlt0;obtain⟨A1,c1,l1,rfl,hN1,hA1⟩:=zpd (hval 1 22 v1 rfl rfl) h1 hlt1;obtain⟨b2,rfl,rfl,rfl⟩:=open_bool Tryz.underlying4 (hval 2 4 v2 rfl rfl) h2;refine(zsU A0 A1 c0 c1 l0 l1 b2 W hN0 hN1).mono fun e W' ⟨he,hn⟩=>?_;subst he;have r0:DataW.Trod enc Tryz.prog W' 0 (fun b=>decide (b<W.heap.size)) true 22 (.slice A0 l0.length c0) d0 p0:=Below.trod zgk (by kernel_rfl) (of_decide_eq_true (by kernel_rfl)) h0k hn hlt0;have r1:DataW.Trod enc Tryz.prog W' 0 (fun b=>decide (b<W.heap.size)) true 22 (.slice A1 l1.length c1) d1 p1:=Below.trod zgk (by kernel_rfl) (of_decide_eq_true (by kernel_rfl)) h1k hn hlt1;have r2:DataW.Trod enc Tryz.prog W' 0 (fun b=>decide (b<W.heap.size)) true 4 (.bool b2) (.lit (.bool b2)) []:=Below.trod zgk (by kernel_rfl) (of_decide_eq_true (by kernel_rfl)) h2k hn (fun y hy=>by cases hy);simp only[List.append_nil,List.nil_append] at hW';exact⟨_,rfl,_,_,_,[],_,[],hW',trodAll_mk1 (shut_bool Tryz.underlying4 true),trodAll_mk3 r0 r1 r2,rfl,hn.frame _,fun h=>by cases h⟩
theorem named:Tryz.checked.prog.funcNamed Rows.runsOneRow.func=some 7:=by kernel_rfl
theorem kB:(Rows.runsOneRow.inPlace==Tryz.checked.prog.inPlace 7)=true:=by kernel_rfl
theorem kC:(Rows.runsOneRow.unfollowed==Tryz.checked.prog.unfollowed 7)=true:=by kernel_rfl
theorem kD:(Rows.runsOneRow.recurses==Tryz.checked.prog.recurses 7)=true:=by kernel_rfl
theorem kE:(Rows.runsOneRow.named==Tryz.checked.prog.varsNamed 7)=true:=by kernel_rfl
theorem kG:(Rows.runsOneRow.plainKeys==Tryz.checked.prog.plainKeys)=true:=by kernel_rfl
theorem kJ:(Rows.runsOneRow.lifted==Tryz.checked.prog.liftsFinal)=true:=by kernel_rfl
theorem kI:Tryz.checked.prog.mayEnter=true:=by kernel_rfl
theorem zvU:joinedFacts Tryz.checked.prog 7 Tryz.f7 Rows.runsOneSpec Rows.runsOneRow=true:=zpe (by kernel_rfl) kB kC kD kE (by kernel_rfl) kG (by kernel_rfl) kI kJ (by kernel_rfl)
theorem zrf:Rows.RunsOneSaid :=
 OpenClaim.holds_of_wide 7 Tryz.f7 rfl rfl rfl rfl rfl rfl rfl ⟨rfl,rfl,rfl,rfl,rfl⟩ rfl rfl rfl rfl rfl named Tryz.func7 zvU
  (of_decide_eq_true (by kernel_rfl)) (by unfold Func.isWrapper;first|(rw[if_pos (by decide +kernel)];kernel_rfl)|(rw[if_neg (by decide +kernel)];exact⟨rfl,rfl⟩))
  (fun os started H enc _=>lifted os started H enc)
end Go.Proofs.YtfjajpnfjjdnpaaGreatDoor.RunsOneCard
