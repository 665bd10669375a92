/-
  The row of LimbBack.
-/
import Derived.Test.YthkeehfoefjnfaaBackLaw
import Derived.Test.YthkeehfoefjnfaaRow
import Derived.OpenShut
import Derived.Lib.SmallJoins
namespace Go.Proofs.Ythkeehfoefjnfaa.BackRow
set_option linter.unusedVariables false
set_option linter.unusedSimpArgs false
open Go.ChangeShapes Go.WideShapes Go.ChangeAt Go.RowKit Num

/-- Two limbs as an array. -/
theorem pair_open {H : Type} {enc : TypeId × Value → H} {W : World} {base b0 : Nat} {r : Reach} {v : Value} {d : DataW H} {p : List MemPlace} (hok : Value.okWide Try.prog W r b0 40 v)
    (h : DataW.Trod enc Try.prog W base (fun _ => true) true 40 v d p) : ∃ t m : Nat, v = .agg #[.int .u32 (t : Int), .int .u32 (m : Int)] ∧ t < 4294967296 ∧ m < 4294967296 ∧ p = [] := by
  have hc2 : Try.prog.cellsOf 40 = 2 := by kernel_rfl
  unfold Value.okWide at hok
  rw [Try.underlying40] at hok
  obtain ⟨cs, rfl, hsz, _⟩ := hok
  rw [hc2] at hsz
  obtain ⟨c0, c1, rfl⟩ := Joins.array2 hsz
  obtain ⟨fuel, hf⟩ := h
  obtain ⟨xs, m, _, hx, _, hl, hd⟩ := DataW.trod_array Try.underlying40 hf
  have h0 := hd 0 (by decide)
  have h1 := hd 1 (by decide)
  rw [row_cellsU] at h0 h1
  match xs, hl with
  | [y0, y1], _ =>
    simp only [Prod.mk.injEq] at hx
    simp [Value.cells] at h0 h1
    obtain ⟨n0, e0, rfl, w0⟩ := DataW.trod_int Try.underlying35 h0
    obtain ⟨n1, e1, rfl, w1⟩ := DataW.trod_int Try.underlying35 h1
    simp at e0 e1
    subst e0 e1
    have k1 : IntKind.u32.min = 0 := rfl
    have k2 : IntKind.u32.max = 4294967295 := rfl
    simp [Lit.wf, k1, k2] at w0 w1
    refine ⟨n0.toNat, n1.toNat, ?_, by omega, by omega, by simpa using hx.2⟩
    rw [Int.toNat_of_nonneg (by omega), Int.toNat_of_nonneg (by omega)]

set_option maxHeartbeats 800000 in
set_option maxRecDepth 100000 in
theorem lifted (os : Os) (started : os.Started) (H : Type) (enc : TypeId × Value → H) :
    ReturnsInHanded {} Try.checked os 6 .any (Rows.limbBackSpec.pre6 enc Try.prog Try.f6 Rows.limbBackRow.domain false) (Rows.limbBackSpec.post enc Try.prog Try.f6 false true false false) := by
  refine returnsInHanded_of_change_sized (C := Try.checked) row_own started (by kernel_rfl) Try.func6
    (ChangeSpec.witness6 (enc := enc) (C := Try.checked) false ⟨#[], #[.slice none 0 0, .slice none 0 0, .agg #[.int .u32 0, .int .u32 0]], []⟩ 8 (by kernel_rfl) (by kernel_rfl) (by kernel_rfl) (by kernel_rfl)) ?_
  intro W base args ds gs before hval0 hW _ _ _
  have hval : ∀ (j : Nat) t v, Try.f6.params[j]? = some t → args[j]? = some v → Value.okWide Try.prog W .any base t v := hval0
  have hW' := hW
  obtain ⟨p, q, hA0, hV, rfl, _, _⟩ := hW
  have hA : DataW.TrodAll enc Try.prog W 0 (fun _ => true) true Try.f6.params.toList args.toList ds p := hA0
  rw [Try.params6] at hA hval
  obtain ⟨v0, v1, v2, d0, d1, d2, p0, p1, p2, rfl, rfl, rfl, h0, h1, h2⟩ := trodAll_three hA
  obtain ⟨rfl, rfl⟩ := trodVars_none hV
  have h0k := h0
  have h1k := h1
  have h2k := h2
  clear hA0 hval0
  have hlt0 : ∀ y ∈ p0, y.block < W.heap.size := fun y hy => by simpa using hW'.lt y (by simp [hy])
  have hlt1 : ∀ y ∈ p1, y.block < W.heap.size := fun y hy => by simpa using hW'.lt y (by simp [hy])
  obtain ⟨A, c, xs, rfl, hU⟩ := us_open rfl (hval 0 22 v0 rfl rfl) h0 hlt0
  obtain ⟨B, d, ys, rfl, hV2⟩ := us_open rfl (hval 1 22 v1 rfl rfl) h1 hlt1
  obtain ⟨t, m, rfl, ht, hm, rfl⟩ := pair_open (hval 2 40 v2 rfl rfl) h2
  refine (back_law A B c d t m xs ys W hU hV2 ht hm).mono fun e W' ⟨he, hn⟩ => ?_
  subst he
  have r0 : DataW.Trod enc Try.prog W' 0 (fun b => decide (b < W.heap.size)) true 22 (.slice A xs.length c) d0 p0 := Below.trod row_laid (by kernel_rfl) (of_decide_eq_true (by kernel_rfl)) h0k hn hlt0
  have r1 : DataW.Trod enc Try.prog W' 0 (fun b => decide (b < W.heap.size)) true 22 (.slice B ys.length d) d1 p1 := Below.trod row_laid (by kernel_rfl) (of_decide_eq_true (by kernel_rfl)) h1k hn hlt1
  have r2 : DataW.Trod enc Try.prog W' 0 (fun b => decide (b < W.heap.size)) true 40 (.agg #[.int .u32 (t : Int), .int .u32 (m : Int)]) d2 [] := Below.trod row_laid (by kernel_rfl) (of_decide_eq_true (by kernel_rfl)) h2k hn (fun y hy => by cases hy)
  simp only [List.append_nil] at hW'
  exact ⟨_, rfl, _, _, _, [], _, [], hW', trodAll_mk1 (shut_bool Try.underlying4 true), trodAll_mk3 r0 r1 r2, rfl, hn.frame _, fun h => by cases h⟩

theorem holds : Rows.LimbBackSaid :=
  OpenClaim.holds_of_wide 6 Try.f6 rfl rfl rfl rfl rfl rfl rfl ⟨rfl, rfl, rfl, rfl, rfl⟩ rfl rfl rfl rfl rfl (by kernel_rfl) Try.func6 (by kernel_rfl)
    (of_decide_eq_true (by kernel_rfl)) (by unfold Func.isWrapper; first | (rw [if_pos (by decide +kernel)]; kernel_rfl) | (rw [if_neg (by decide +kernel)]; exact ⟨rfl, rfl⟩))
    (fun os started H enc _ => lifted os started H enc)

end Go.Proofs.Ythkeehfoefjnfaa.BackRow
