/-
  BoxMore holds of every input, on no condition: the law answers true, and what was handed in reads as before.
-/
import Derived.Test.YtlnmcilcifbcnaaGBxM
import Derived.Test.YtlnmcilcifbcnaaGClRow
import Derived.SizedLaws

set_option linter.unusedVariables false
set_option linter.unusedSimpArgs false
set_option maxRecDepth 100000
namespace Go.Proofs.Ytlnmcilcifbcnaa.BoxMoreRow
open Go.ChangeShapes Go.WideShapes Go.ChangeAt Go.RowKit Nds
theorem crow_bytes : Try.prog.bytesOf 27 = 72 := by kernel_rfl
theorem datum_length {H : Type} {enc : TypeId × Value → H} {W : World} {base : Nat} {A : Option Addr} {n c : Nat} {d : DataW H} {p : List MemPlace}
  (h : DataW.Trod enc Try.prog W base (fun _ => true) true 22 (.slice A n c) d p) : n = 0 ∨ ∃ el sp, d = .slice el sp ∧ el.length = n := by
 obtain ⟨fuel, hf⟩ := h
 rcases Go.Deep.open_slice Try.underlying22 hf with ⟨hcs, hx⟩ | ⟨a, len, cap, m, k, D, Pl, hcs, hb, hl, hm, hmm, hx, hi⟩
 ·
  simp [Value.cells] at hcs
  exact .inl hcs.2.1
 ·
  simp [Value.cells] at hcs
  obtain ⟨-, rfl, -⟩ := hcs
  simp only [Prod.mk.injEq] at hx
  exact .inr ⟨_, _, hx.1, by simp⟩
set_option maxHeartbeats 800000 in
theorem lifted (os : Os) (started : os.Started) (H : Type) (enc : TypeId × Value → H) :
  ReturnsInHanded {} Try.checked os 9 .any (Rows.boxMoreSpec.pre6 enc Try.prog Try.f9 Rows.boxMoreRow.domain false) (Rows.boxMoreSpec.post enc Try.prog Try.f9 false true false false) := by
 refine returnsInHanded_of_change_sized (C := Try.checked) nrow_own started (by kernel_rfl) Try.func9
  (ChangeSpec.witness6 (enc := enc) (C := Try.checked) false ⟨#[], #[.slice none 0 0, .agg #[.bool false, .slice none 0 0, .bool false, .slice none 0 0, .int .u8 0]], []⟩ 8 (by kernel_rfl) (by kernel_rfl) (by kernel_rfl) (by kernel_rfl)) ?_
 intro W base args ds gs before hval0 hW _ hsz0 _
 have hval : ∀ (j : Nat) t v, Try.f9.params[j]? = some t → args[j]? = some v → Value.okWide Try.prog W .any base t v := hval0
 have hsz : (DataW.weightsEach Try.prog (Try.f9.params.toList ++ Rows.boxMoreSpec.plain.varTypes Try.prog) (ds ++ gs)).all (· ≤ reachBytes) = true := hsz0
 have hW' := hW
 obtain ⟨p, q, hA0, hV, rfl, _, _⟩ := hW
 have hA : DataW.TrodAll enc Try.prog W 0 (fun _ => true) true Try.f9.params.toList args.toList ds p := hA0
 rw [Try.params9] at hA hval hsz
 obtain ⟨v0, v1, d0, d1, p0, p1, rfl, rfl, rfl, h0, h1⟩ := trodAll_two hA
 obtain ⟨rfl, rfl⟩ := trodVars_none hV
 have h0k := h0
 have h1k := h1
 clear hA0 hval0 hsz0
 have hlt0 : ∀ y ∈ p0, y.block < W.heap.size := fun y hy => by simpa using hW'.lt y (by simp [hy])
 have hlt1 : ∀ y ∈ p1, y.block < W.heap.size := fun y hy => by simpa using hW'.lt y (by simp [hy])
 obtain ⟨A0, c0, l0, rfl, hN0, hA0⟩ := cs_open (hval 0 22 v0 rfl rfl) h0 hlt0
 obtain ⟨u1, rfl, hN1⟩ := cv_open (hval 1 27 v1 rfl rfl) h1 hlt1
 have hre : l0.length * 72 ≤ 140737488351232 := by
  rcases datum_length h0k with h | ⟨el, sp, e, hl⟩
  ·
   omega
  ·
   have hs := sized_slice hsz (j := 0) (t := 22) (e := 27) rfl (by rw [e]; rfl) Try.underlying22
   rw [crow_bytes, hl] at hs
   simp only [reachBytes] at hs
   omega
 refine (boxmore_law A0 c0 l0 u1 W hN0 hA0 hN1 hre).mono fun e W' ⟨he, hn⟩ => ?_
 subst he
 have r0 : DataW.Trod enc Try.prog W' 0 (fun b => decide (b < W.heap.size)) true 22 (.slice A0 l0.length c0) d0 p0 := Below.trod nrow_laid (by kernel_rfl) (of_decide_eq_true (by kernel_rfl)) h0k hn hlt0
 have r1 : DataW.Trod enc Try.prog W' 0 (fun b => decide (b < W.heap.size)) true 27 (cvv u1) d1 p1 := Below.trod nrow_laid (by kernel_rfl) (of_decide_eq_true (by kernel_rfl)) h1k hn hlt1
 simp only [List.append_nil] at hW'
 exact ⟨_, rfl, _, _, _, [], _, [], hW', trodAll_mk1 (shut_bool Try.underlying4 true), trodAll_mk2 r0 r1, rfl, hn.frame _, fun h => by cases h⟩
theorem holds : Rows.BoxMoreSaid :=
 OpenClaim.holds_of_wide 9 Try.f9 rfl rfl rfl rfl rfl rfl rfl ⟨rfl, rfl, rfl, rfl, rfl⟩ rfl rfl rfl rfl rfl (by kernel_rfl) Try.func9 (by kernel_rfl)
  (of_decide_eq_true (by kernel_rfl)) (by unfold Func.isWrapper; first | (rw [if_pos (by decide +kernel)]; kernel_rfl) | (rw [if_neg (by decide +kernel)]; exact ⟨rfl, rfl⟩))
  (fun os started H enc _ => lifted os started H enc)
end Go.Proofs.Ytlnmcilcifbcnaa.BoxMoreRow
