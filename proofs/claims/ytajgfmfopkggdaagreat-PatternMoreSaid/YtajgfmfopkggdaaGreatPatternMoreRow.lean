/-
  PatternMore holds of every input, on no condition: the law answers true, and what was handed in reads as before.
-/
import Derived.Test.YtajgfmfopkggdaaGreatGPtM
import Derived.Test.YtajgfmfopkggdaaGreatGPtW

set_option linter.unusedVariables false
set_option linter.unusedSimpArgs false
set_option maxRecDepth 100000
namespace Go.Proofs.YtajgfmfopkggdaaGreat.PatternMoreRow
open Go.ChangeShapes Go.WideShapes Go.ChangeAt Go.RowKit Nds
open Go.ChangeMaps (open_string shut_string)
set_option maxHeartbeats 800000 in
theorem lifted (os : Os) (started : os.Started) (H : Type) (enc : TypeId × Value → H) :
  ReturnsInHanded {} Tryz.checked os 9 .any (Rows.patternMoreSpec.pre6 enc Tryz.prog Tryz.f9 Rows.patternMoreRow.domain false) (Rows.patternMoreSpec.post enc Tryz.prog Tryz.f9 false true false false) := by
 refine returnsInHanded_of_change_sized (C := Tryz.checked) nrow_own started (by kernel_rfl) Tryz.func9
  (ChangeSpec.witness6 (enc := enc) (C := Tryz.checked) false ⟨#[], #[.slice none 0 0, .agg #[.int .i64 0, .int .i64 0], .int .u8 0], []⟩ 8 (by kernel_rfl) (by kernel_rfl) (by kernel_rfl) (by kernel_rfl)) ?_
 intro W base args ds gs before hval0 hW _ _ _
 have hval : ∀ (j : Nat) t v, Tryz.f9.params[j]? = some t → args[j]? = some v → Value.okWide Tryz.prog W .any base t v := hval0
 have hW' := hW
 obtain ⟨p, q, hA0, hV, rfl, _, _⟩ := hW
 have hA : DataW.TrodAll enc Tryz.prog W 0 (fun _ => true) true Tryz.f9.params.toList args.toList ds p := hA0
 rw [Tryz.params9] at hA hval
 obtain ⟨v0, v1, v2, d0, d1, d2, p0, p1, p2, rfl, rfl, rfl, h0, h1, h2⟩ := trodAll_three hA
 obtain ⟨rfl, rfl⟩ := trodVars_none hV
 have h0k := h0
 have h1k := h1
 have h2k := h2
 clear hA0 hval0
 have hlt0 : ∀ y ∈ p0, y.block < W.heap.size := fun y hy => by simpa using hW'.lt y (by simp [hy])
 have hlt1 : ∀ y ∈ p1, y.block < W.heap.size := fun y hy => by simpa using hW'.lt y (by simp [hy])
 obtain ⟨A0, c0, l0, rfl, hN0, hA0⟩ := cs_open (hval 0 22 v0 rfl rfl) h0 hlt0
 obtain ⟨b1, m1, rfl, hm1⟩ := lim_open (hval 1 54 v1 rfl rfl) h1
 obtain ⟨n2, rfl, rfl, rfl, wn2⟩ := open_int Tryz.underlying5 (hval 2 5 v2 rfl rfl) h2
 have n2c : 0 ≤ n2 ∧ n2 ≤ 255 := by
  have e1 : IntKind.u8.min = 0 := rfl
  have e2 : IntKind.u8.max = 255 := rfl
  simp [Lit.wf, e1, e2] at wn2
  omega
 obtain ⟨k2, rfl⟩ : ∃ k : Nat, n2 = (k : Int) := ⟨n2.toNat, by omega⟩
 have n2b : k2 ≤ 255 := by omega
 refine (pmore_law A0 c0 l0 b1 m1 k2 W hN0 hm1 n2b).mono fun e W' ⟨he, hn⟩ => ?_
 subst he
 have r0 : DataW.Trod enc Tryz.prog W' 0 (fun b => decide (b < W.heap.size)) true 22 (.slice A0 l0.length c0) d0 p0 := Below.trod nrow_laid (by kernel_rfl) (of_decide_eq_true (by kernel_rfl)) h0k hn hlt0
 have r1 : DataW.Trod enc Tryz.prog W' 0 (fun b => decide (b < W.heap.size)) true 54 (.agg #[.int .i64 b1, .int .i64 m1]) d1 p1 := Below.trod nrow_laid (by kernel_rfl) (of_decide_eq_true (by kernel_rfl)) h1k hn hlt1
 have r2 : DataW.Trod enc Tryz.prog W' 0 (fun b => decide (b < W.heap.size)) true 5 (.int .u8 k2) (.lit (.int .u8 k2)) [] := Below.trod nrow_laid (by kernel_rfl) (of_decide_eq_true (by kernel_rfl)) h2k hn (fun y hy => by cases hy)
 simp only [List.append_nil, List.nil_append] at hW'
 exact ⟨_, rfl, _, _, _, [], _, [], hW', trodAll_mk1 (shut_bool Tryz.underlying4 true), trodAll_mk3 r0 r1 r2, rfl, hn.frame _, fun h => by cases h⟩
theorem holds : Rows.PatternMoreSaid :=
 OpenClaim.holds_of_wide 9 Tryz.f9 rfl rfl rfl rfl rfl rfl rfl ⟨rfl, rfl, rfl, rfl, rfl⟩ rfl rfl rfl rfl rfl (by kernel_rfl) Tryz.func9 (by kernel_rfl)
  (of_decide_eq_true (by kernel_rfl)) (by unfold Func.isWrapper; first | (rw [if_pos (by decide +kernel)]; kernel_rfl) | (rw [if_neg (by decide +kernel)]; exact ⟨rfl, rfl⟩))
  (fun os started H enc _ => lifted os started H enc)
end Go.Proofs.YtajgfmfopkggdaaGreat.PatternMoreRow
