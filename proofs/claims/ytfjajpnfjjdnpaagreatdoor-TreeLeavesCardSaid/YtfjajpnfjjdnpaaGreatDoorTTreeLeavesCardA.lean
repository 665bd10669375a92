import Derived.Test.YtfjajpnfjjdnpaaGreatDoorTTrY
import Derived.Stop.LaidErr
import Derived.Lib.LaidTab
import Derived.Test.YtfjajpnfjjdnpaaGreatDoorTie
import Derived.LaidMore
import Derived.Lay
import Derived.SevenTiedAt
import Derived.Stop.Joined

set_option linter.unusedVariables false
set_option linter.unusedSimpArgs false
set_option maxRecDepth 100000
set_option maxHeartbeats 6400000
namespace Go.Proofs.YtfjajpnfjjdnpaaGreatDoor.TreeLeavesCard
open Go.ChangeShapes Go.WideShapes Go.ChangeAt Go.RowKit Nds
open Go.ChangeMaps (open_string shut_string)
theorem lifted (os:Os)(started:os.Started)(H:Type)(enc:TypeId × Value→H) :
    ReturnsInHanded {} Tryz.checked os 10 .any (fun w args=>(Rows.treeLeavesSpec.pre enc Tryz.prog Tryz.f10 Rows.treeLeavesRow.domain false w args∧laidMetH Tryz.prog Rows.treeLeavesRow.laid w)∧sizedMet enc Tryz.prog Tryz.f10 (OpenSpec.ofChange Rows.treeLeavesSpec) false w args)
      (Rows.treeLeavesSpec.post enc Tryz.prog Tryz.f10 false true false false):=by
  refine returnsInHanded_of_change_and (C:=Tryz.checked) (X:=fun w _=>laidMetH Tryz.prog Rows.treeLeavesRow.laid w) (fun _ _ _ hh h=>h.of_heap hh) ziz started (by kernel_rfl) Tryz.func10
    (ChangeSpec.witness_shaped (enc:=enc) (C:=Tryz.checked) (os:=os) (X:=fun w _=>laidMetH Tryz.prog Rows.treeLeavesRow.laid w) false (World.laidAll Tryz.prog os Rows.treeLeavesRow.laid) #[.slice none 0 0,.int .i64 0] 8 (World.laidAll_os _ _ _)
      (World.shaped_of_ZipB (by kernel_rfl) (by kernel_rfl)) (by kernel_rfl) (by kernel_rfl) (by kernel_rfl)
      (by rw[MakeChecks.laidMetH_plain _ _ _ (by kernel_rfl)];exact laidMet_laidAll _ (by kernel_rfl) (by kernel_rfl))) ?_
  intro W base args ds gs before hval0 hW _ _ hL _;have hT:TabP W:=by
    have h1:=(show laidMetH Tryz.prog Rows.treeLeavesRow.laid W from hL);rw[MakeChecks.laidMetH_plain _ _ _ (by kernel_rfl)] at h1;exact Lib.tabIs_of_head (g:=1) (t:=267) (e:=135) (n:=20) (by kernel_rfl) (by kernel_rfl) (by kernel_rfl) (by kernel_rfl) (by kernel_rfl) (by kernel_rfl) h1.tail.tail
  have hval:∀(j:Nat) t v,Tryz.f10.params[j]?=some t→args[j]?=some v→Value.okWide Tryz.prog W .any base t v:=hval0;have hW':=hW;obtain⟨p,q,hA0,hV,rfl,_,_⟩:=hW;have hA:DataW.TrodAll enc Tryz.prog W 0 (fun _=>true) true Tryz.f10.params.toList args.toList ds p:=hA0;rw[Tryz.params10] at hA hval;obtain⟨v0,v1,d0,d1,p0,p1,rfl,rfl,rfl,h0,h1⟩:=trodAll_two hA;obtain⟨rfl,rfl⟩:=trodVars_none hV;have h0k:=h0;have h1k:=h1;clear hA0 hval0;have hlt0:∀y∈p0,y.block<W.heap.size:=fun y hy=>by simpa using hW'.lt y (by simp[hy])
  obtain⟨A0,c0,l0,rfl,hN0,hA0⟩:=zok (hval 0 26 v0 rfl rfl) h0;obtain⟨n1,rfl,rfl,rfl,wn1⟩:=open_int Tryz.underlying3 (hval 1 3 v1 rfl rfl) h1;have n1b:in64 n1:=by
    have e1:IntKind.i64.min = -9223372036854775808:=rfl;have e2:IntKind.i64.max=9223372036854775807:=rfl;simp[Lit.wf,e1,e2] at wn1;unfold in64;omega
  refine(zix A0 c0 l0 n1 W hN0 n1b hT).mono fun e W' ⟨he,hn⟩=>?_;subst he;have r0:DataW.Trod enc Tryz.prog W' 0 (fun b=>decide (b<W.heap.size)) true 26 (.slice A0 l0.length c0) d0 p0:=Below.trod zeK (by kernel_rfl) (of_decide_eq_true (by kernel_rfl)) h0k hn hlt0;have r1:DataW.Trod enc Tryz.prog W' 0 (fun b=>decide (b<W.heap.size)) true 3 (.int .i64 n1) (.lit (.int .i64 n1)) []:=Below.trod zeK (by kernel_rfl) (of_decide_eq_true (by kernel_rfl)) h1k hn (fun y hy=>by cases hy);simp only[List.append_nil,List.nil_append] at hW';exact⟨_,rfl,_,_,_,[],_,[],hW',trodAll_mk1 (shut_bool Tryz.underlying4 true),trodAll_mk2 r0 r1,rfl,hn.frame _,fun h=>by cases h⟩
theorem named:Tryz.checked.prog.funcNamed Rows.treeLeavesRow.func=some 10:=by kernel_rfl
theorem kB:(Rows.treeLeavesRow.inPlace==Tryz.checked.prog.inPlace 10)=true:=by kernel_rfl
theorem kC:(Rows.treeLeavesRow.unfollowed==Tryz.checked.prog.unfollowed 10)=true:=by kernel_rfl
theorem kD:(Rows.treeLeavesRow.recurses==Tryz.checked.prog.recurses 10)=true:=by kernel_rfl
theorem kE:(Rows.treeLeavesRow.named==Tryz.checked.prog.varsNamed 10)=true:=by kernel_rfl
theorem kG:(Rows.treeLeavesRow.plainKeys==Tryz.checked.prog.plainKeys)=true:=by kernel_rfl
theorem kJ:(Rows.treeLeavesRow.lifted==Tryz.checked.prog.liftsFinal)=true:=by kernel_rfl
theorem kI:Tryz.checked.prog.mayEnter=true:=by kernel_rfl
theorem closed:joinedFacts Tryz.checked.prog 10 Tryz.f10 Rows.treeLeavesSpec Rows.treeLeavesRow=true:=zhn (by kernel_rfl) kB kC kD kE (by kernel_rfl) kG (by kernel_rfl) kI kJ (by kernel_rfl)
theorem row_holds:Rows.TreeLeavesSaid :=
 OpenClaim.holds_of_wide 10 Tryz.f10 rfl rfl rfl rfl rfl rfl rfl ⟨rfl,rfl,rfl,rfl,rfl⟩ rfl rfl rfl rfl rfl named Tryz.func10 closed
  (of_decide_eq_true (by kernel_rfl)) (by unfold Func.isWrapper;first|(rw[if_pos (by decide +kernel)];kernel_rfl)|(rw[if_neg (by decide +kernel)];exact⟨rfl,rfl⟩))
  (fun os started H enc _=>lifted os started H enc)
end Go.Proofs.YtfjajpnfjjdnpaaGreatDoor.TreeLeavesCard
