/-
  PatternCells holds of every input, on no condition: the law answers true, and what was handed in reads as before.
-/
import Derived.Test.YtajgfmfopkggdaaGreatGPtC
import Derived.Test.YtajgfmfopkggdaaGreatGPtW

set_option linter.unusedVariables false
set_option linter.unusedSimpArgs false
set_option maxRecDepth 100000
namespace Go.Proofs.YtajgfmfopkggdaaGreat.PatternCellsRow
open Go.ChangeShapes Go.WideShapes Go.ChangeAt Go.RowKit Nds
open Go.ChangeMaps (open_string shut_string)
set_option maxHeartbeats 800000 in
theorem lifted (os : Os) (started : os.Started) (H : Type) (enc : TypeId × Value → H) :
  ReturnsInHanded {} Tryz.checked os 8 .any (Rows.patternCellsSpec.pre6 enc Tryz.prog Tryz.f8 Rows.patternCellsRow.domain false) (Rows.patternCellsSpec.post enc Tryz.prog Tryz.f8 false true false false) := by
 refine returnsInHanded_of_change_sized (C := Tryz.checked) nrow_own started (by kernel_rfl) Tryz.func8
  (ChangeSpec.witness6 (enc := enc) (C := Tryz.checked) false ⟨#[], #[.string ⟨#[]⟩, .slice none 0 0, .agg #[.int .i64 0, .int .i64 0]], []⟩ 8 (by kernel_rfl) (by kernel_rfl) (by kernel_rfl) (by kernel_rfl)) ?_
 intro W base args ds gs before hval0 hW _ _ _
 have hval : ∀ (j : Nat) t v, Tryz.f8.params[j]? = some t → args[j]? = some v → Value.okWide Tryz.prog W .any base t v := hval0
 have hW' := hW
 obtain ⟨p, q, hA0, hV, rfl, _, _⟩ := hW
 have hA : DataW.TrodAll enc Tryz.prog W 0 (fun _ => true) true Tryz.f8.params.toList args.toList ds p := hA0
 rw [Tryz.params8] at hA hval
 obtain ⟨v0, v1, v2, d0, d1, d2, p0, p1, p2, rfl, rfl, rfl, h0, h1, h2⟩ := trodAll_three hA
 obtain ⟨rfl, rfl⟩ := trodVars_none hV
 have h0k := h0
 have h1k := h1
 have h2k := h2
 clear hA0 hval0
 have hlt1 : ∀ y ∈ p1, y.block < W.heap.size := fun y hy => by simpa using hW'.lt y (by simp [hy])
 have hlt2 : ∀ y ∈ p2, y.block < W.heap.size := fun y hy => by simpa using hW'.lt y (by simp [hy])
 obtain ⟨s0, rfl, rfl, rfl, hs0⟩ := open_string Tryz.underlying9 (hval 0 9 v0 rfl rfl) h0
 obtain ⟨A1, c1, l1, rfl, hN1, hA1⟩ := cs_open (hval 1 22 v1 rfl rfl) h1 hlt1
 obtain ⟨b2, m2, rfl, hm2⟩ := lim_open (hval 2 54 v2 rfl rfl) h2
 refine (pcells_law A1 c1 s0 l1 b2 m2 W hs0 hN1 hm2).mono fun e W' ⟨he, hn⟩ => ?_
 subst he
 have r0 : DataW.Trod enc Tryz.prog W' 0 (fun b => decide (b < W.heap.size)) true 9 (.string s0) (.lit (.string s0.data.toList)) [] := Below.trod nrow_laid (by kernel_rfl) (of_decide_eq_true (by kernel_rfl)) h0k hn (fun y hy => by cases hy)
 have r1 : DataW.Trod enc Tryz.prog W' 0 (fun b => decide (b < W.heap.size)) true 22 (.slice A1 l1.length c1) d1 p1 := Below.trod nrow_laid (by kernel_rfl) (of_decide_eq_true (by kernel_rfl)) h1k hn hlt1
 have r2 : DataW.Trod enc Tryz.prog W' 0 (fun b => decide (b < W.heap.size)) true 54 (.agg #[.int .i64 b2, .int .i64 m2]) d2 p2 := Below.trod nrow_laid (by kernel_rfl) (of_decide_eq_true (by kernel_rfl)) h2k hn hlt2
 simp only [List.append_nil, List.nil_append] at hW'
 exact ⟨_, rfl, _, _, _, [], _, [], hW', trodAll_mk1 (shut_bool Tryz.underlying4 true), trodAll_mk3 r0 r1 r2, rfl, hn.frame _, fun h => by cases h⟩
theorem holds : Rows.PatternCellsSaid :=
 OpenClaim.holds_of_wide 8 Tryz.f8 rfl rfl rfl rfl rfl rfl rfl ⟨rfl, rfl, rfl, rfl, rfl⟩ rfl rfl rfl rfl rfl (by kernel_rfl) Tryz.func8 (by kernel_rfl)
  (of_decide_eq_true (by kernel_rfl)) (by unfold Func.isWrapper; first | (rw [if_pos (by decide +kernel)]; kernel_rfl) | (rw [if_neg (by decide +kernel)]; exact ⟨rfl, rfl⟩))
  (fun os started H enc _ => lifted os started H enc)
end Go.Proofs.YtajgfmfopkggdaaGreat.PatternCellsRow
