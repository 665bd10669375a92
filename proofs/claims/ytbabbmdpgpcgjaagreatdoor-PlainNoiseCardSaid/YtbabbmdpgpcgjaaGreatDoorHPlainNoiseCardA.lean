import Derived.Test.YtbabbmdpgpcgjaaGreatDoorHPlNo
import Derived.Test.YtbabbmdpgpcgjaaGreatDoorTie
import Derived.LaidMore
import Derived.Lay
import Derived.SevenTiedAt
import Derived.Stop.Joined

set_option linter.unusedVariables false
set_option linter.unusedSimpArgs false
set_option maxRecDepth 100000
set_option maxHeartbeats 6400000
namespace Go.Proofs.YtbabbmdpgpcgjaaGreatDoor.PlainNoiseCard
open Go.ChangeShapes Go.WideShapes Go.ChangeAt Go.RowKit Nds
open Go.ChangeMaps (open_string shut_string)
theorem lifted (os:Os)(started:os.Started)(H:Type)(enc:TypeId × Value→H) :
    ReturnsInHanded {} Tryz.checked os 5 .any (fun w args=>(Rows.plainNoiseSpec.pre enc Tryz.prog Tryz.f5 Rows.plainNoiseRow.domain false w args∧laidMetH Tryz.prog Rows.plainNoiseRow.laid w)∧sizedMet enc Tryz.prog Tryz.f5 (OpenSpec.ofChange Rows.plainNoiseSpec) false w args)
      (Rows.plainNoiseSpec.post enc Tryz.prog Tryz.f5 false true false false):=by
  refine returnsInHanded_of_change_and (C:=Tryz.checked) (X:=fun w _=>laidMetH Tryz.prog Rows.plainNoiseRow.laid w) (fun _ _ _ hh h=>h.of_heap hh) zsD started (by kernel_rfl) Tryz.func5
    (ChangeSpec.witness_shaped (enc:=enc) (C:=Tryz.checked) (os:=os) (X:=fun w _=>laidMetH Tryz.prog Rows.plainNoiseRow.laid w) false (World.laidAll Tryz.prog os Rows.plainNoiseRow.laid) #[.string ⟨#[]⟩,.int .u8 0] 8 (World.laidAll_os _ _ _)
      (World.shaped_of_ZipB (by kernel_rfl) (by kernel_rfl)) (by kernel_rfl) (by kernel_rfl) (by kernel_rfl)
      (by rw[MakeChecks.laidMetH_plain _ _ _ (by kernel_rfl)];exact laidMet_laidAll _ (by kernel_rfl) (by kernel_rfl))) ?_
  intro W base args ds gs before hval0 hW _ _ _ _;have hval:∀(j:Nat) t v,Tryz.f5.params[j]?=some t→args[j]?=some v→Value.okWide Tryz.prog W .any base t v:=hval0;have hW':=hW;obtain⟨p,q,hA0,hV,rfl,_,_⟩:=hW;have hA:DataW.TrodAll enc Tryz.prog W 0 (fun _=>true) true Tryz.f5.params.toList args.toList ds p:=hA0;rw[Tryz.params5] at hA hval;obtain⟨v0,v1,d0,d1,p0,p1,rfl,rfl,rfl,h0,h1⟩:=trodAll_two hA;obtain⟨rfl,rfl⟩:=trodVars_none hV;have h0k:=h0;have h1k:=h1;clear hA0 hval0;obtain⟨s0,rfl,rfl,rfl,hs0⟩:=open_string Tryz.underlying9 (hval 0 9 v0 rfl rfl) h0;obtain⟨n1,rfl,rfl,rfl,wn1⟩:=open_int Tryz.underlying5 (hval 1 5 v1 rfl rfl) h1;have n1c:0≤n1∧n1≤255:=by
    have e1:IntKind.u8.min=0:=rfl;have e2:IntKind.u8.max=255:=rfl;simp[Lit.wf,e1,e2] at wn1;omega
  obtain⟨k1,rfl⟩:∃k:Nat,n1=(k:Int):=⟨n1.toNat,by omega⟩;have n1b:k1≤255:=by omega
  refine(zpo s0 k1 W hs0 n1b).mono fun e W' ⟨he,hn⟩=>?_;subst he;have r0:DataW.Trod enc Tryz.prog W' 0 (fun b=>decide (b<W.heap.size)) true 9 (.string s0) (.lit (.string s0.data.toList)) []:=Below.trod zjX (by kernel_rfl) (of_decide_eq_true (by kernel_rfl)) h0k hn (fun y hy=>by cases hy);have r1:DataW.Trod enc Tryz.prog W' 0 (fun b=>decide (b<W.heap.size)) true 5 (.int .u8 k1) (.lit (.int .u8 k1)) []:=Below.trod zjX (by kernel_rfl) (of_decide_eq_true (by kernel_rfl)) h1k hn (fun y hy=>by cases hy);simp only[List.append_nil,List.nil_append] at hW';exact⟨_,rfl,_,_,_,[],_,[],hW',trodAll_mk1 (shut_bool Tryz.underlying4 true),trodAll_mk2 r0 r1,rfl,hn.frame _,fun h=>by cases h⟩
theorem named:Tryz.checked.prog.funcNamed Rows.plainNoiseRow.func=some 5:=by kernel_rfl
theorem kB:(Rows.plainNoiseRow.inPlace==Tryz.checked.prog.inPlace 5)=true:=by kernel_rfl
theorem kC:(Rows.plainNoiseRow.unfollowed==Tryz.checked.prog.unfollowed 5)=true:=by kernel_rfl
theorem kD:(Rows.plainNoiseRow.recurses==Tryz.checked.prog.recurses 5)=true:=by kernel_rfl
theorem kE:(Rows.plainNoiseRow.named==Tryz.checked.prog.varsNamed 5)=true:=by kernel_rfl
theorem kG:(Rows.plainNoiseRow.plainKeys==Tryz.checked.prog.plainKeys)=true:=by kernel_rfl
theorem kJ:(Rows.plainNoiseRow.lifted==Tryz.checked.prog.liftsFinal)=true:=by kernel_rfl
theorem kI:Tryz.checked.prog.mayEnter=true:=by kernel_rfl
theorem zyz:joinedFacts Tryz.checked.prog 5 Tryz.f5 Rows.plainNoiseSpec Rows.plainNoiseRow=true:=zqk (by kernel_rfl) kB kC kD kE (by kernel_rfl) kG (by kernel_rfl) kI kJ (by kernel_rfl)
theorem zsA:Rows.PlainNoiseSaid :=
 OpenClaim.holds_of_wide 5 Tryz.f5 rfl rfl rfl rfl rfl rfl rfl ⟨rfl,rfl,rfl,rfl,rfl⟩ rfl rfl rfl rfl rfl named Tryz.func5 zyz
  (of_decide_eq_true (by kernel_rfl)) (by unfold Func.isWrapper;first|(rw[if_pos (by decide +kernel)];kernel_rfl)|(rw[if_neg (by decide +kernel)];exact⟨rfl,rfl⟩))
  (fun os started H enc _=>lifted os started H enc)
end Go.Proofs.YtbabbmdpgpcgjaaGreatDoor.PlainNoiseCard
