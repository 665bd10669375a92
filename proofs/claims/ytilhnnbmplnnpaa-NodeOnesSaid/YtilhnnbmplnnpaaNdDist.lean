/-
  node: distinct.
-/
import Derived.Test.YtilhnnbmplnnpaaNdMap

namespace Go.Proofs.Ytilhnnbmplnnpaa
set_option linter.unusedVariables false
set_option linter.unusedSimpArgs false
open Go.RowKit Nds
theorem make_hint (n : Int) (w : World) : (Instr.makeMap 44 (some (.int .i64 n))).run Try.prog w = .ok (.map (some w.heap.size)) (w.alloc (.map #[] 0)) := by
  simp [Instr.makeMap, run_underlying Try.underlying44, asInt, Result.andThen]
  rfl
set_option maxRecDepth 100000 in
set_option maxHeartbeats 1600000 in
theorem distinct_any (A : Option Addr) (c : Nat) (l : List Nd) (w : World) (h : Ns w A c l) :
    Calls Try.prog 19 #[.slice A l.length c] w fun e w' => e = .returned (.bool (distB l)) ∧ Below w.heap.size w w' := by
  have hcap := h.cap
  obtain ⟨R, hR⟩ : ∃ R, R = distB l := ⟨_, rfl⟩
  rw [← hR]
  have HR := Lib.hid hR
  have HN := Lib.hid h
  clear hR h
  obtain ⟨n, hn⟩ : ∃ n, n = l.length := ⟨_, rfl⟩
  rw [← hn] at hcap ⊢
  have HL := Lib.hid hn
  clear hn
  have hmm := make_hint n
  go_enter Try.func19, Try.ntmps19
  go_wp2
  obtain ⟨g, hg⟩ : ∃ g, g = w.heap.size := ⟨_, rfl⟩
  have HG := Lib.hid hg
  rw [← hg]
  clear hmm
  go_loopw [11, 5] (fun i z wr => ∃ (k : Nat) (v : Value), k ≤ n ∧ i = .int .i64 k ∧ z = v ∧ (∀ j, j < k → (at_ l j).each (· == 0) = false ∧ at_ l j ∉ l.take j) ∧ NM wr g (l.take k).reverse ∧ Below w.heap.size w wr) (fun i _ _ => n - (intOf i).toNat)
  case atStart => exact ⟨0, _, by omega, rfl, rfl, fun j hj => by omega, by rw [hg]; exact NM.made w, (Below.refl _ _).alloc (Nat.le_refl _) _⟩
  case round =>
    obtain ⟨k, v, hk, rfl, rfl, hall, hnm, hbw⟩ := hrel
    have HA := Lib.hid hall
    have HM := Lib.hid hnm
    clear hall hnm hg
    by_cases hlt : k < n
    · obtain ⟨b, off, rfl, hb, hc⟩ := HN.out.at_ (by rw [← HL.out]; omega)
      obtain ⟨c1, c2, c3, c4, c5⟩ := (hc k (by rw [← HL.out]; omega)).below (hbw.block b hb)
      clear hc
      obtain ⟨x, hx⟩ : ∃ x, x = at_ l k := ⟨_, rfl⟩
      rw [← hx] at c1 c2 c3 c4 c5
      have HX := Lib.hid hx
      clear hx
      have i1 : (k : Int) < (n : Int) := by omega
      have hwx : x.wf := by rw [HX.out]; exact HN.out.wf (by rw [← HL.out]; exact hlt)
      have hkl : k < l.length := by rw [← HL.out]; exact hlt
      have hq := eql_four x hwx
      have hst : (wr.alloc (.cells #[.int .i64 x.lv, .int .i64 x.a, .int .i64 x.b, .int .i64 x.c, .int .i64 x.d] 35)).heap[g]? = wr.heap[g]? := Below.heap_alloc _ _ _ HM.out.lt
      have HM2 := Lib.hid (HM.out.stay hst)
      have hlk := HM2.out.look x hwx
      have hbw2 := hbw.alloc hbw.size (.cells #[.int .i64 x.lv, .int .i64 x.a, .int .i64 x.b, .int .i64 x.c, .int .i64 x.d] 35)
      have hgs : wr.heap.size < (wr.alloc (.cells #[.int .i64 x.lv, .int .i64 x.a, .int .i64 x.b, .int .i64 x.c, .int .i64 x.d] 35)).heap.size := by simp
      have hgl := HM.out.lt
      have HWX := Lib.hid hwx
      have HKL := Lib.hid hkl
      have hgw : w.heap.size ≤ g := by rw [HG.out]; exact Nat.le_refl _
      clear hst hwx hkl
      cases hz : x.each (· == 0) with
      | true =>
        have HZ := Lib.hid hz
        rw [hz] at hq
        clear hz
        go_wp2
        go_ret
        refine ⟨nd_b ?_, hbw2⟩
        rw [HR.out]
        cases hd : distB l
        · rfl
        · have := (dist_iff.1 hd k HKL.out).1
          rw [← HX.out, HZ.out] at this
          cases this
      | false =>
        have HZ := Lib.hid hz
        rw [hz] at hq
        clear hz
        by_cases hm : x ∈ (l.take k).reverse
        · have HI := Lib.hid hm
          rw [decide_eq_true hm] at hlk
          clear hm
          go_wp2
          go_ret
          refine ⟨nd_b ?_, hbw2⟩
          rw [HR.out]
          cases hd : distB l
          · rfl
          · exact absurd (by rw [← HX.out]; exact List.mem_reverse.1 HI.out) (dist_iff.1 hd k HKL.out).2
        · have HI := Lib.hid hm
          rw [decide_eq_false hm] at hlk
          clear hm
          go_wp2_with (at_mapUpdate; refine wpList_store_nm _ rfl _ _ _ rfl g _ x rfl rfl rfl HM2.out HWX.out ?_; intro w1 hm1 hg1)
          go_roundw
          case rel =>
            refine ⟨k + 1, _, by omega, by go_num, rfl, fun j hj => ?_, ?_, hbw2.grown hg1 hbw2.size (fun i hi => by cases hi; exact hgw)⟩
            · rcases Nat.lt_or_ge j k with h1 | h1
              · exact HA.out j h1
              · rw [show j = k by omega, ← HX.out]
                exact ⟨HZ.out, fun h => HI.out (List.mem_reverse.2 h)⟩
            · rw [take_at HKL.out, List.reverse_append, ← HX.out]
              exact hm1
          case measure => simp [intOf]; omega
    · go_wp2
      go_ret
      refine ⟨nd_b ?_, hbw⟩
      rw [HR.out]
      exact (dist_iff.2 fun i hi => HA.out i (by rw [← HL.out] at hi; omega)).symm
theorem distinct_at (A : Option Addr) (c n : Nat) (l : List Nd) (w : World) (h : Ns w A c l) (hn : l.length = n) :
    Calls Try.prog 19 #[.slice A n c] w fun e w' => e = .returned (.bool (distB l)) ∧ Below w.heap.size w w' := by
  subst hn
  exact distinct_any A c l w h
end Go.Proofs.Ytilhnnbmplnnpaa
