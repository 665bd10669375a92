import Derived.Test.YtfjajpnfjjdnpaaGreatDoorTTrY
import Derived.Stop.LaidErr
import Derived.Lib.LaidTab
import Derived.Test.YtfjajpnfjjdnpaaGreatDoorTie
import Derived.LaidMore
import Derived.Lay
import Derived.SevenTiedAt
import Derived.Stop.Joined

set_option linter.unusedVariables false
set_option linter.unusedSimpArgs false
set_option maxRecDepth 100000
set_option maxHeartbeats 6400000
namespace Go.Proofs.YtfjajpnfjjdnpaaGreatDoor.TreeTextsCard
open Go.ChangeShapes Go.WideShapes Go.ChangeAt Go.RowKit Nds
open Go.ChangeMaps (open_string shut_string)
theorem lifted (os:Os)(started:os.Started)(H:Type)(enc:TypeId × Value→H) :
    ReturnsInHanded {} Tryz.checked os 9 .any (fun w args=>(Rows.treeTextsSpec.pre enc Tryz.prog Tryz.f9 Rows.treeTextsRow.domain false w args∧laidMetH Tryz.prog Rows.treeTextsRow.laid w)∧sizedMet enc Tryz.prog Tryz.f9 (OpenSpec.ofChange Rows.treeTextsSpec) false w args)
      (Rows.treeTextsSpec.post enc Tryz.prog Tryz.f9 false true false false):=by
  refine returnsInHanded_of_change_and (C:=Tryz.checked) (X:=fun w _=>laidMetH Tryz.prog Rows.treeTextsRow.laid w) (fun _ _ _ hh h=>h.of_heap hh) ziz started (by kernel_rfl) Tryz.func9
    (ChangeSpec.witness_shaped (enc:=enc) (C:=Tryz.checked) (os:=os) (X:=fun w _=>laidMetH Tryz.prog Rows.treeTextsRow.laid w) false (World.laidAll Tryz.prog os Rows.treeTextsRow.laid) #[.agg #[.string ⟨#[]⟩,.slice none 0 0]] 8 (World.laidAll_os _ _ _)
      (World.shaped_of_ZipB (by kernel_rfl) (by kernel_rfl)) (by kernel_rfl) (by kernel_rfl) (by kernel_rfl)
      (by rw[MakeChecks.laidMetH_plain _ _ _ (by kernel_rfl)];exact laidMet_laidAll _ (by kernel_rfl) (by kernel_rfl))) ?_
  intro W base args ds gs before hval0 hW _ _ hL _;have hT:TabP W:=by
    have h1:=(show laidMetH Tryz.prog Rows.treeTextsRow.laid W from hL);rw[MakeChecks.laidMetH_plain _ _ _ (by kernel_rfl)] at h1;exact Lib.tabIs_of_head (g:=1) (t:=267) (e:=135) (n:=20) (by kernel_rfl) (by kernel_rfl) (by kernel_rfl) (by kernel_rfl) (by kernel_rfl) (by kernel_rfl) h1.tail.tail
  have hval:∀(j:Nat) t v,Tryz.f9.params[j]?=some t→args[j]?=some v→Value.okWide Tryz.prog W .any base t v:=hval0;have hW':=hW;obtain⟨p,q,hA0,hV,rfl,_,_⟩:=hW;have hA:DataW.TrodAll enc Tryz.prog W 0 (fun _=>true) true Tryz.f9.params.toList args.toList ds p:=hA0;rw[Tryz.params9] at hA hval;obtain⟨v0,d0,rfl,rfl,h0⟩:=trodAll_one hA;obtain⟨rfl,rfl⟩:=trodVars_none hV;have h0k:=h0;clear hA0 hval0;have hlt0:∀y∈p,y.block<W.heap.size:=fun y hy=>by simpa using hW'.lt y (by simp[hy])
  obtain⟨s0,A0,c0,l0,rfl,hN0,hA0,hs0⟩:=znj (hval 0 30 v0 rfl rfl) h0;refine(zkz A0 c0 s0 l0 W hs0 hN0 hA0 hT).mono fun e W' ⟨he,hn⟩=>?_;subst he;have r0:DataW.Trod enc Tryz.prog W' 0 (fun b=>decide (b<W.heap.size)) true 30 (.agg #[.string s0,.slice A0 l0.length c0]) d0 p:=Below.trod zeK (by kernel_rfl) (of_decide_eq_true (by kernel_rfl)) h0k hn hlt0;simp only[List.append_nil,List.nil_append] at hW';exact⟨_,rfl,_,_,_,[],_,[],hW',trodAll_mk1 (shut_bool Tryz.underlying4 true),trodAll_mk1 r0,rfl,hn.frame _,fun h=>by cases h⟩
theorem named:Tryz.checked.prog.funcNamed Rows.treeTextsRow.func=some 9:=by kernel_rfl
theorem kB:(Rows.treeTextsRow.inPlace==Tryz.checked.prog.inPlace 9)=true:=by kernel_rfl
theorem kC:(Rows.treeTextsRow.unfollowed==Tryz.checked.prog.unfollowed 9)=true:=by kernel_rfl
theorem kD:(Rows.treeTextsRow.recurses==Tryz.checked.prog.recurses 9)=true:=by kernel_rfl
theorem kE:(Rows.treeTextsRow.named==Tryz.checked.prog.varsNamed 9)=true:=by kernel_rfl
theorem kG:(Rows.treeTextsRow.plainKeys==Tryz.checked.prog.plainKeys)=true:=by kernel_rfl
theorem kJ:(Rows.treeTextsRow.lifted==Tryz.checked.prog.liftsFinal)=true:=by kernel_rfl
theorem kI:Tryz.checked.prog.mayEnter=true:=by kernel_rfl
theorem closed:joinedFacts Tryz.checked.prog 9 Tryz.f9 Rows.treeTextsSpec Rows.treeTextsRow=true:=zhn (by kernel_rfl) kB kC kD kE (by kernel_rfl) kG (by kernel_rfl) kI kJ (by kernel_rfl)
theorem row_holds:Rows.TreeTextsSaid :=
 OpenClaim.holds_of_wide 9 Tryz.f9 rfl rfl rfl rfl rfl rfl rfl ⟨rfl,rfl,rfl,rfl,rfl⟩ rfl rfl rfl rfl rfl named Tryz.func9 closed
  (of_decide_eq_true (by kernel_rfl)) (by unfold Func.isWrapper;first|(rw[if_pos (by decide +kernel)];kernel_rfl)|(rw[if_neg (by decide +kernel)];exact⟨rfl,rfl⟩))
  (fun os started H enc _=>lifted os started H enc)
end Go.Proofs.YtfjajpnfjjdnpaaGreatDoor.TreeTextsCard
