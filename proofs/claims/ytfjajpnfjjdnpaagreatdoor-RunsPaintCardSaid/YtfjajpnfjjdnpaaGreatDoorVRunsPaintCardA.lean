import Derived.Test.YtfjajpnfjjdnpaaGreatDoorVRuPw
import Derived.Test.YtfjajpnfjjdnpaaGreatDoorTie
import Derived.LaidMore
import Derived.Lay
import Derived.SevenTiedAt
import Derived.Stop.Joined

set_option linter.unusedVariables false
set_option linter.unusedSimpArgs false
set_option maxRecDepth 100000
set_option maxHeartbeats 6400000
namespace Go.Proofs.YtfjajpnfjjdnpaaGreatDoor.RunsPaintCard
open Go.ChangeShapes Go.WideShapes Go.ChangeAt Go.RowKit Nds
open Go.ChangeMaps (open_string shut_string)
theorem lifted (os:Os)(started:os.Started)(H:Type)(enc:TypeId × Value→H) :
    ReturnsInHanded {} Tryz.checked os 8 .any (fun w args=>(Rows.runsPaintSpec.pre enc Tryz.prog Tryz.f8 Rows.runsPaintRow.domain false w args∧laidMetH Tryz.prog Rows.runsPaintRow.laid w)∧sizedMet enc Tryz.prog Tryz.f8 (OpenSpec.ofChange Rows.runsPaintSpec) false w args)
      (Rows.runsPaintSpec.post enc Tryz.prog Tryz.f8 false true false false):=by
  refine returnsInHanded_of_change_and (C:=Tryz.checked) (X:=fun w _=>laidMetH Tryz.prog Rows.runsPaintRow.laid w) (fun _ _ _ hh h=>h.of_heap hh) zpC started (by kernel_rfl) Tryz.func8
    (ChangeSpec.witness_shaped (enc:=enc) (C:=Tryz.checked) (os:=os) (X:=fun w _=>laidMetH Tryz.prog Rows.runsPaintRow.laid w) false (World.laidAll Tryz.prog os Rows.runsPaintRow.laid) #[.agg #[.bool false,.slice none 0 0,.bool false,.slice none 0 0,.slice none 0 0]] 8 (World.laidAll_os _ _ _)
      (World.shaped_of_ZipB (by kernel_rfl) (by kernel_rfl)) (by kernel_rfl) (by kernel_rfl) (by kernel_rfl)
      (by rw[MakeChecks.laidMetH_plain _ _ _ (by kernel_rfl)];exact laidMet_laidAll _ (by kernel_rfl) (by kernel_rfl))) ?_
  intro W base args ds gs before hval0 hW _ _ _ _;have hval:∀(j:Nat) t v,Tryz.f8.params[j]?=some t→args[j]?=some v→Value.okWide Tryz.prog W .any base t v:=hval0;have hW':=hW;obtain⟨p,q,hA0,hV,rfl,_,_⟩:=hW;have hA:DataW.TrodAll enc Tryz.prog W 0 (fun _=>true) true Tryz.f8.params.toList args.toList ds p:=hA0;rw[Tryz.params8] at hA hval;obtain⟨v0,d0,rfl,rfl,h0⟩:=trodAll_one hA;obtain⟨rfl,rfl⟩:=trodVars_none hV;have h0k:=h0;clear hA0 hval0;have hlt0:∀y∈p,y.block<W.heap.size:=fun y hy=>by simpa using hW'.lt y (by simp[hy])
  obtain⟨u0,rfl,hN0⟩:=zoM (hval 0 51 v0 rfl rfl) h0 hlt0;refine(zmH u0 W hN0).mono fun e W' ⟨he,hn⟩=>?_;subst he;have r0:DataW.Trod enc Tryz.prog W' 0 (fun b=>decide (b<W.heap.size)) true 51 u0.val d0 p:=Below.trod zmK (by kernel_rfl) (of_decide_eq_true (by kernel_rfl)) h0k hn hlt0;simp only[List.append_nil,List.nil_append] at hW';exact⟨_,rfl,_,_,_,[],_,[],hW',trodAll_mk1 (shut_bool Tryz.underlying4 true),trodAll_mk1 r0,rfl,hn.frame _,fun h=>by cases h⟩
theorem named:Tryz.checked.prog.funcNamed Rows.runsPaintRow.func=some 8:=by kernel_rfl
theorem kB:(Rows.runsPaintRow.inPlace==Tryz.checked.prog.inPlace 8)=true:=by kernel_rfl
theorem kC:(Rows.runsPaintRow.unfollowed==Tryz.checked.prog.unfollowed 8)=true:=by kernel_rfl
theorem kD:(Rows.runsPaintRow.recurses==Tryz.checked.prog.recurses 8)=true:=by kernel_rfl
theorem kE:(Rows.runsPaintRow.named==Tryz.checked.prog.varsNamed 8)=true:=by kernel_rfl
theorem kG:(Rows.runsPaintRow.plainKeys==Tryz.checked.prog.plainKeys)=true:=by kernel_rfl
theorem kJ:(Rows.runsPaintRow.lifted==Tryz.checked.prog.liftsFinal)=true:=by kernel_rfl
theorem kI:Tryz.checked.prog.mayEnter=true:=by kernel_rfl
theorem zuq:joinedFacts Tryz.checked.prog 8 Tryz.f8 Rows.runsPaintSpec Rows.runsPaintRow=true:=zoN (by kernel_rfl) kB kC kD kE (by kernel_rfl) kG (by kernel_rfl) kI kJ (by kernel_rfl)
theorem zpy:Rows.RunsPaintSaid :=
 OpenClaim.holds_of_wide 8 Tryz.f8 rfl rfl rfl rfl rfl rfl rfl ⟨rfl,rfl,rfl,rfl,rfl⟩ rfl rfl rfl rfl rfl named Tryz.func8 zuq
  (of_decide_eq_true (by kernel_rfl)) (by unfold Func.isWrapper;first|(rw[if_pos (by decide +kernel)];kernel_rfl)|(rw[if_neg (by decide +kernel)];exact⟨rfl,rfl⟩))
  (fun os started H enc _=>lifted os started H enc)
end Go.Proofs.YtfjajpnfjjdnpaaGreatDoor.RunsPaintCard
