/-
  node: empty, Empty.
-/
import Derived.Test.YtilhnnbmplnnpaaNdMap

namespace Go.Proofs.Ytilhnnbmplnnpaa
set_option linter.unusedVariables false
set_option linter.unusedSimpArgs false
open Go.RowKit Nds
theorem gb_refl (w : World) (r : Option Nat) : w.grownBy w r := ⟨rfl, rfl, rfl, Nat.le_refl _, fun _ _ _ => rfl⟩
theorem gb_trans {a b c : World} {r : Option Nat} (h : a.grownBy b r) (k : b.grownBy c r) : a.grownBy c r :=
  ⟨k.os.trans h.os, k.tape.trans h.tape, k.output.trans h.output, Nat.le_trans h.size k.size, fun i hi hr => (k.block i (Nat.lt_of_lt_of_le hi h.size) hr).trans (h.block i hi hr)⟩
/-- Nodes stand while a map is written. -/
theorem Ns.gb {w w' : World} {A : Option Addr} {c : Nat} {l : List Nd} {b : Nat} (h : Ns w A c l) (hA : ∀ a, A = some a → a.block ≠ b) (hg : w.grownBy w' (some b)) : Ns w' A c l :=
  ⟨h.1, h.2.1, h.2.2.1, fun hn => by
    obtain ⟨g, off, e, hlt, hc⟩ := h.2.2.2 hn
    have hne : g ≠ b := hA _ e
    exact ⟨g, off, e, Nat.lt_of_lt_of_le hlt hg.size, fun i hi => (hc i hi).below (hg.block g hlt (fun e => hne (by cases e; rfl)))⟩⟩
/-- Every node that a map knows is empty. -/
def AllE (l : List Nd) (S : List Nd) : Prop := ∀ y ∈ S, nodeEmp l y = true
/-- What empty leaves. -/
def RetE (l : List Nd) (r : Bool) (b : Nat) (w : World) (e : Ending) (w' : World) : Prop := e = .returned (.bool r) ∧ ∃ S, NM w' b S ∧ AllE l S ∧ w.grownBy w' (some b)
set_option maxRecDepth 100000 in
set_option maxHeartbeats 3200000 in
theorem empty_rec (A : Option Addr) (c n b : Nat) (l : List Nd) (hl : looseB l = true) (hn : l.length = n) (hn0 : n ≤ c ∧ c ≤ 9223372036854775807) (hA : ∀ a, A = some a → a.block ≠ b) : ∀ (m : Nat) (x : Nd) (S : List Nd) (w : World),
    x.lv ≤ m → x.wf → fitB l x = true → Ns w A c l → NM w b S → AllE l S →
    Calls Try.prog 24 #[.slice A n c, ndv x, .map (some b)] w (RetE l (nodeEmp l x) b w) := by
  intro m
  induction m with
  | zero =>
    intro x S w hm hx hf
    have := fit_lv hf
    omega
  | succ m ih =>
    intro x S w hm hx hf hN hM hS
    have hv := fit_lv hf
    obtain ⟨R, hR⟩ : ∃ R, R = nodeEmp l x := ⟨_, rfl⟩
    rw [← hR]
    have HR := Lib.hid hR
    have HN := Lib.hid hN
    have HM := Lib.hid hM
    have HS := Lib.hid hS
    have HL := Lib.hid hn
    have HF := Lib.hid hf
    have HWX := Lib.hid hx
    have hq := eql_four x hx
    have hst : (w.alloc (.cells #[.int .i64 x.lv, .int .i64 x.a, .int .i64 x.b, .int .i64 x.c, .int .i64 x.d] 35)).heap[b]? = w.heap[b]? := Below.heap_alloc _ _ _ hM.lt
    have HM2 := Lib.hid (hM.stay hst)
    have hlk := HM2.out.look x hx
    have HG2 := Lib.hid (World.grownBy_alloc w (.cells #[.int .i64 x.lv, .int .i64 x.a, .int .i64 x.b, .int .i64 x.c, .int .i64 x.d] 35) (some b))
    clear hR hN hM hS hn hf hx hst
    cases hz : x.each (· == 0) with
    | true =>
      have HZ := Lib.hid hz
      rw [hz] at hq
      clear hz
      go_enter Try.func24, Try.ntmps24
      go_wp2_with fail
      go_ret
      exact ⟨nd_b (HR.out.trans (emp_zero HZ.out)).symm, S, HM2.out, HS.out, HG2.out⟩
    | false =>
      have HZ := Lib.hid hz
      rw [hz] at hq
      clear hz
      by_cases hk : x ∈ S
      · have HI := Lib.hid hk
        rw [decide_eq_true hk] at hlk
        clear hk
        go_enter Try.func24, Try.ntmps24
        go_wp2_with fail
        go_ret
        exact ⟨nd_b (HR.out.trans (HS.out x HI.out)).symm, S, HM2.out, HS.out, HG2.out⟩
      · rw [decide_eq_false hk] at hlk
        clear hk
        by_cases h1 : x.lv = 1
        · have t1 : (x.lv == 1) = true := by rw [beq_iff_eq]; exact h1
          have HO := Lib.hid h1
          clear h1
          go_enter Try.func24, Try.ntmps24
          go_wp2_with fail
          go_ret
          exact ⟨nd_b (HR.out.trans ((emp_one HO.out).trans HZ.out)).symm, S, HM2.out, HS.out, HG2.out⟩
        · have t1 : (x.lv == 1) = false := beq_eq_false_iff_ne.2 h1
          go_enter Try.func24, Try.ntmps24
          go_wp2_with fail
          clear hlk hq
          obtain ⟨g, hg⟩ : ∃ g, g = w.heap.size := ⟨_, rfl⟩
          have hgb : g ≠ b := by have := HM.out.lt; omega
          have HBX := Lib.hid (show NdAt (w.alloc (.cells #[.int .i64 x.lv, .int .i64 x.a, .int .i64 x.b, .int .i64 x.c, .int .i64 x.d] 35)) g 0 x by rw [hg]; exact NdAt.new w x _)
          have hgs : g < (w.alloc (.cells #[.int .i64 x.lv, .int .i64 x.a, .int .i64 x.b, .int .i64 x.c, .int .i64 x.d] 35)).heap.size := by rw [hg]; simp
          rw [← hg]
          generalize hW : w.alloc _ = W at *
          clear hW hg
          go_loopw [23, 8] (fun i z wr => ∃ (k : Nat) (v : Value) (S' : List Nd), k ≤ 4 ∧ i = .int .i64 k ∧ z = v ∧ (∀ j, j < k → (x.kid j == 0 || empB l (x.kid j).toNat) = true) ∧ NM wr b S' ∧ AllE l S' ∧ W.grownBy wr (some b)) (fun i _ _ => 4 - (intOf i).toNat)
          case atStart => exact ⟨0, _, S, by omega, rfl, rfl, fun j hj => by omega, HM2.out, HS.out, gb_refl _ _⟩
          case round =>
            obtain ⟨k, v, S', hk, rfl, rfl, hall, hnm, hae, hgr⟩ := hrel
            have HA := Lib.hid hall
            have HNM := Lib.hid hnm
            have HAE := Lib.hid hae
            clear hall hnm hae
            by_cases hlt : k < 4
            · have hi := index4 x k hlt
              have hfk := fit_kid HF.out hlt
              obtain ⟨y, hy⟩ : ∃ y, y = x.kid k := ⟨_, rfl⟩
              rw [← hy] at hi hfk
              have HY := Lib.hid hy
              clear hy
              rcases kid_up h1 hfk with rfl | ⟨p, rfl, hp, hpl⟩
              · clear hfk
                go_wp2_with fail
                go_roundw
                case rel =>
                  refine ⟨k + 1, _, S', by omega, by go_num, rfl, fun j hj => ?_, HNM.out, HAE.out, hgr⟩
                  rcases Nat.lt_or_ge j k with h2 | h2
                  · exact HA.out j h2
                  · rw [show j = k by omega, ← HY.out]; rfl
                case measure => simp [intOf]; omega
              · have hpn : p < n := by rw [← HL.out]; exact hp
                obtain ⟨bb, off, rfl, hb, hc⟩ := HN.out.at_ (by omega)
                have hne : bb ≠ b := hA _ rfl
                have hbW : bb < W.heap.size := Nat.lt_of_lt_of_le hb HG2.out.size
                have hNW := HN.out.gb hA HG2.out
                have hNr := Lib.hid (hNW.gb hA hgr)
                have hcr : wr.heap[bb]? = w.heap[bb]? := (hgr.block bb hbW (fun e => hne (by cases e; rfl))).trans (HG2.out.block bb hb (fun e => hne (by cases e; rfl)))
                obtain ⟨c1, c2, c3, c4, c5⟩ := (hc p hp).below hcr
                have hfz := Lib.hid (loose_fit hl hp)
                have hwz := Lib.hid (HN.out.wf hp)
                have hem := Lib.hid (emp_at hl hp)
                have hlz : (at_ l p).lv ≤ (m : Int) := by omega
                clear hc hcr hNW hfk hp
                obtain ⟨z, hz⟩ : ∃ z, z = at_ l p := ⟨_, rfl⟩
                rw [← hz] at c1 c2 c3 c4 c5 hfz hwz hem hlz
                have HZ := Lib.hid hz
                have t2 : (((p : Int) + 1) != 0) = true := by rw [bne_iff_ne]; omega
                have i1 : (p : Int) < (n : Int) := by omega
                clear hz hpl
                cases hr : nodeEmp l z with
                | true =>
                  have HRR := Lib.hid hr
                  clear hr
                  go_wp2_with (go_at_call 24; refine (ih z S' _ hlz hwz.out hfz.out hNr.out HNM.out HAE.out).mono ?_; rintro e w1 ⟨rfl, S2, hm2, hs2, hg2⟩; have HM3 := Lib.hid hm2; have HS3 := Lib.hid hs2; have HG3 := Lib.hid hg2; clear hm2 hs2 hg2; rw [HRR.out])
                  go_roundw
                  case rel =>
                    refine ⟨k + 1, _, S2, by omega, by go_num, rfl, fun j hj => ?_, HM3.out, HS3.out, gb_trans hgr HG3.out⟩
                    rcases Nat.lt_or_ge j k with h2 | h2
                    · exact HA.out j h2
                    · rw [show j = k by omega, ← HY.out, show ((p : Int) + 1).toNat = p + 1 by omega, hem.out, HRR.out]; simp
                  case measure => simp [intOf]; omega
                | false =>
                  have HRR := Lib.hid hr
                  clear hr
                  go_wp2_with (go_at_call 24; refine (ih z S' _ hlz hwz.out hfz.out hNr.out HNM.out HAE.out).mono ?_; rintro e w1 ⟨rfl, S2, hm2, hs2, hg2⟩; have HM3 := Lib.hid hm2; have HS3 := Lib.hid hs2; have HG3 := Lib.hid hg2; clear hm2 hs2 hg2; rw [HRR.out])
                  go_ret
                  refine ⟨nd_b ?_, S2, HM3.out, HS3.out, gb_trans HG2.out (gb_trans hgr HG3.out)⟩
                  rw [HR.out, emp_up (by omega)]
                  refine (each_no hlt ?_).symm
                  rw [← HY.out, show ((p : Int) + 1).toNat = p + 1 by omega, hem.out, HRR.out, Bool.or_false]
                  exact beq_eq_false_iff_ne.2 (by omega)
            · have hbr : wr.heap[g]? = W.heap[g]? := hgr.block g hgs (fun e => hgb (by cases e; rfl))
              obtain ⟨f1, f2, f3, f4, f5⟩ := HBX.out.below hbr
              have hr : nodeEmp l x = true := by
                rw [emp_up (by omega), each_iff]
                exact fun j hj => HA.out j (by omega)
              have HRR := Lib.hid hr
              clear hr hbr
              go_wp2_with (at_mapUpdate; refine wpList_store_nm _ rfl _ _ _ rfl b S' x rfl rfl rfl HNM.out HWX.out ?_; intro w1 hm1 hg1)
              go_ret
              refine ⟨nd_b (HR.out.trans HRR.out).symm, x :: S', hm1, ?_, gb_trans HG2.out (gb_trans hgr hg1)⟩
              intro y hy
              rcases List.mem_cons.1 hy with rfl | hy
              · exact HRR.out
              · exact HAE.out y hy
end Go.Proofs.Ytilhnnbmplnnpaa
