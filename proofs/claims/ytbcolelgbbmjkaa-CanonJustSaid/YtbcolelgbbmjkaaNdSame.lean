/-
  node: Level, Same; the reference's Nodes.
-/
import Derived.Test.YtbcolelgbbmjkaaNdMap

namespace Go.Proofs.Ytbcolelgbbmjkaa
set_option linter.unusedVariables false
set_option linter.unusedSimpArgs false
open Go.RowKit Nds
theorem below_drewN' {B : Nat} {a w : World} (h : Below B a w) (n : Nat) : Below B a (w.drewN n) := ⟨h.os, h.tape, h.output, h.size, h.block⟩
theorem nd_lists {l m : List Nd} (hl : l.length = m.length) (h : ∀ j, j < l.length → at_ l j = at_ m j) : l = m := by
  refine List.ext_getElem hl fun j h1 h2 => ?_
  have := h j h1
  unfold at_ at this
  rwa [List.getElem?_eq_getElem h1, List.getElem?_eq_getElem h2] at this
set_option maxRecDepth 100000 in
set_option maxHeartbeats 1600000 in
theorem rnodes_any (A B : Option Addr) (c d n p : Nat) (l m : List Nd) (w : World) (h : Ns w A c l) (k : Ns w B d m) (hn : l.length = n) (hp : m.length = p) :
    Calls Try.prog 9 #[.slice A n c, .slice B p d] w fun e w' => e = .returned (.bool (decide (l = m))) ∧ ∃ q, w' = w.drewN q := by
  have hcl := h.cap
  have hcm := k.cap
  rw [hn] at hcl
  rw [hp] at hcm
  obtain ⟨R, hR⟩ : ∃ R, R = decide (l = m) := ⟨_, rfl⟩
  rw [← hR]
  have HR := Lib.hid hR
  clear hR
  by_cases hl : n = p
  · subst hl
    have HNL := Lib.hid h
    have HNM := Lib.hid k
    have HL := Lib.hid hn
    have HP := Lib.hid hp
    clear h k hn hp
    go_enter Try.func9, Try.ntmps9
    go_wp2_with fail
    go_loopw [5] (fun i  wr => ∃ (k : Nat) (nd : Nat), wr = w.drewN nd ∧ k ≤ n ∧ i = .int .i64 k ∧ ∀ j, j < k → at_ l j = at_ m j) (fun i _ => n - (intOf i).toNat)
    case atStart => exact ⟨0, 0, rfl, by omega, rfl, fun j hj => by omega⟩
    case round =>
      obtain ⟨k, nd, rfl, hk, rfl, hall⟩ := hrel
      have HA := Lib.hid hall
      clear hall
      by_cases hlt : k < n
      · obtain ⟨b, off, rfl, hb, hc⟩ := HNL.out.at_ (by rw [HL.out]; omega)
        obtain ⟨b2, off2, rfl, hb2, hc2⟩ := HNM.out.at_ (by rw [HP.out]; omega)
        obtain ⟨c1, c2, c3, c4, c5⟩ := hc k (by rw [HL.out]; exact hlt)
        obtain ⟨d1, d2, d3, d4, d5⟩ := hc2 k (by rw [HP.out]; exact hlt)
        have hwx := HNL.out.wf (i := k) (by rw [HL.out]; exact hlt)
        have hwy := HNM.out.wf (i := k) (by rw [HP.out]; exact hlt)
        clear hc hc2
        obtain ⟨x, hx⟩ : ∃ x, x = at_ l k := ⟨_, rfl⟩
        obtain ⟨y, hy⟩ : ∃ y, y = at_ m k := ⟨_, rfl⟩
        rw [← hx] at c1 c2 c3 c4 c5 hwx
        rw [← hy] at d1 d2 d3 d4 d5 hwy
        have HX := Lib.hid hx
        have HY := Lib.hid hy
        clear hx hy
        have hq := neq_node x y hwx hwy
        have i1 : (k : Int) < (n : Int) := by omega
        have i2 : (0 : Int) ≤ (k : Int) := by omega
        clear hwx hwy
        by_cases hxy : x = y
        · have HXY := Lib.hid hxy
          rw [decide_eq_true hxy] at hq
          clear hxy
          go_wp2_with fail
          go_quiet (fail)
          go_wp2_with fail
          go_roundw
          case rel =>
            refine ⟨k + 1, _, rfl, by omega, by go_num, fun j hj => ?_⟩
            rcases Nat.lt_or_ge j k with h1 | h1
            · exact HA.out j h1
            · rw [show j = k by omega, ← HX.out, ← HY.out]; exact HXY.out
          case measure => simp [intOf]; omega
        · have HXY := Lib.hid hxy
          rw [decide_eq_false hxy] at hq
          clear hxy
          go_wp2_with fail
          go_quiet (fail)
          go_wp2_with fail
          go_ret
          refine ⟨nd_b ?_, by first | exact ⟨_, rfl⟩ | exact ⟨_, World.drewN_drewN _ _ _⟩⟩
          rw [HR.out]
          exact (decide_eq_false fun e => HXY.out (by rw [HX.out, HY.out, e])).symm
      · go_wp2_with fail
        go_ret
        refine ⟨nd_b ?_, ⟨_, rfl⟩⟩
        rw [HR.out]
        exact (decide_eq_true (nd_lists (HL.out.trans HP.out.symm) fun j hj => HA.out j (by rw [HL.out] at hj; omega))).symm
  · have hr : R = false := by
      rw [HR.out]
      exact decide_eq_false fun e => hl (by rw [← hn, ← hp, e])
    subst hr
    have t1 : ((n : Int) != (p : Int)) = true := by rw [bne_iff_ne]; omega
    clear hl h k hn hp
    go_enter Try.func9, Try.ntmps9
    go_wp2_with fail
    go_ret
    exact ⟨rfl, 0, rfl⟩
theorem drewN_below {w w' : World} (h : ∃ q, w' = w.drewN q) : Below w.heap.size w w' := by
  obtain ⟨q, rfl⟩ := h
  exact below_drewN' (Below.refl _ _) q
end Go.Proofs.Ytbcolelgbbmjkaa
