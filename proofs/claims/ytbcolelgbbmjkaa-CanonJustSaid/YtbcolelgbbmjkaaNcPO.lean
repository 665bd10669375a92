/-
  canon: Of.
-/
import Derived.Test.YtbcolelgbbmjkaaNcOr
import Derived.Test.YtbcolelgbbmjkaaNcRO

namespace Go.Proofs.Ytbcolelgbbmjkaa
set_option linter.unusedVariables false
set_option linter.unusedSimpArgs false
open Go.RowKit Nds
set_option maxRecDepth 100000 in
set_option maxHeartbeats 3200000 in
theorem pof_no (A : Option Addr) (c n : Nat) (l : List Nd) (k : Int) (w : World) (h : Ns w A c l) (hn : l.length = n) (hno : looseB l = false ∨ k < 0 ∨ (n : Int) < k) :
    Calls Try.prog 6 #[.slice A n c, .int .i64 k] w (RetO l k w) := by
  have hcap := h.cap
  rw [hn] at hcap
  have hR := ofQ_no (okB_no (by rw [hn]; exact hno))
  obtain ⟨R, hRR⟩ : ∃ R, R = RetO l k w := ⟨_, rfl⟩
  rw [← hRR]
  have HR := Lib.hid hRR
  have HQ := Lib.hid hR
  have hb := (Below.refl w.heap.size w).alloc (Nat.le_refl _) (.cells #[.slice none 0 0] 25)
  have HB := Lib.hid hb
  have HN := Lib.hid (h.below hb)
  have HL := Lib.hid hn
  have hgc : (w.alloc (.cells #[.slice none 0 0] 25)).heap[w.heap.size]? = some (.cells #[.slice none 0 0] 25) := heap_alloc_new w _
  have HGC := Lib.hid hgc
  have hcg0 := one_cell hgc
  have hlt : w.heap.size < (w.alloc (.cells #[.slice none 0 0] 25)).heap.size := by simp
  have HLT := Lib.hid hlt
  have hcases : k < 0 ∨ (0 ≤ k ∧ (n : Int) < k) ∨ (0 ≤ k ∧ k ≤ (n : Int) ∧ looseB l = false) := by
    by_cases h0 : k < 0
    · exact .inl h0
    · by_cases h1 : (n : Int) < k
      · exact .inr (.inl ⟨by omega, h1⟩)
      · rcases hno with h | h
        · exact .inr (.inr ⟨by omega, by omega, h⟩)
        · omega
  clear h hn hno hb hgc hlt hR hRR
  rcases hcases with h0 | ⟨h0, h1⟩ | ⟨h0, h1, hq⟩
  · go_enter Try.func6, Try.ntmps6
    go_wp2_with fail
    generalize hF : World.alloc _ _ = F at *
    refine bodyPost_ret (v := .tuple #[.agg #[.slice none 0 0], .int .i64 1]) (by simp [results, Try.results6, go_sem, hcg0]) rfl ?_
    rw [HR.out]
    refine ⟨none, 0, ?_, ?_, fun _ => rfl, HB.out⟩
    · rw [HQ.out.1, HQ.out.2]
      rfl
    · rw [HQ.out.1]
      exact ns_nil _
  · go_enter Try.func6, Try.ntmps6
    go_wp2_with fail
    generalize hF : World.alloc _ _ = F at *
    refine bodyPost_ret (v := .tuple #[.agg #[.slice none 0 0], .int .i64 1]) (by simp [results, Try.results6, go_sem, hcg0]) rfl ?_
    rw [HR.out]
    refine ⟨none, 0, ?_, ?_, fun _ => rfl, HB.out⟩
    · rw [HQ.out.1, HQ.out.2]
      rfl
    · rw [HQ.out.1]
      exact ns_nil _
  · have HLL := Lib.hid hq
    have t0 : decide (k < 0) = false := decide_eq_false (by omega)
    have t1 : decide ((n : Int) < k) = false := decide_eq_false (by omega)
    clear hq hcg0
    go_enter Try.func6, Try.ntmps6
    go_wp2_with (go_at_call 15; go_loud (refine (loose_at _ _ n l _ HN.out HL.out).mono ?_; rintro e w1 ⟨rfl, b1⟩; have HB1 := Lib.hid b1; have hcg := (b1.block w.heap.size HLT.out).trans HGC.out; have cg := one_cell hcg; have fg := one_free hcg; clear b1 hcg; rw [HLL.out]))
    have e1 := World.cell?_setCell_same _ _ (.slice none 0 0) cg
    refine bodyPost_ret (v := .tuple #[.agg #[.slice none 0 0], .int .i64 1]) (by simp [results, Try.results6, go_sem, e1]) rfl ?_
    rw [HR.out]
    refine ⟨none, 0, ?_, ?_, fun _ => rfl, (HB.out.trans (HB1.out.mono HB.out.size)).setCell (Nat.le_refl _) _⟩
    · rw [HQ.out.1, HQ.out.2]
      rfl
    · rw [HQ.out.1]
      exact ns_nil _
set_option maxRecDepth 100000 in
set_option maxHeartbeats 3200000 in
theorem pof_yes (A : Option Addr) (c n k : Nat) (l : List Nd) (w : World) (h : Ns w A c l) (hn : l.length = n) (hn9 : n ≤ 900000) (hl : looseB l = true) (hk : k ≤ n) (hA : A = none → c = 0) :
    Calls Try.prog 6 #[.slice A n c, .int .i64 (k : Int)] w (RetO l (k : Int) w) := by
  have hcap := h.cap
  rw [hn] at hcap
  have HQ := Lib.hid (ofQ_yes hl (n := k) (by omega))
  obtain ⟨R, hRR⟩ : ∃ R, R = RetO l (k : Int) w := ⟨_, rfl⟩
  rw [← hRR]
  have HR := Lib.hid hRR
  have hb := (Below.refl w.heap.size w).alloc (Nat.le_refl _) (.cells #[.slice none 0 0] 25)
  have HB := Lib.hid hb
  have HN := Lib.hid (h.below hb)
  have HL := Lib.hid hn
  have HLL := Lib.hid hl
  have HA := Lib.hid hA
  have hgc : (w.alloc (.cells #[.slice none 0 0] 25)).heap[w.heap.size]? = some (.cells #[.slice none 0 0] 25) := heap_alloc_new w _
  have HGC := Lib.hid hgc
  have t0 : decide ((k : Int) < 0) = false := decide_eq_false (by omega)
  have t1 : decide ((n : Int) < (k : Int)) = false := decide_eq_false (by omega)
  clear h hn hb hgc hRR hA hl
  go_enter Try.func6, Try.ntmps6
  go_wp2_with (first
    | (go_at_call 15; go_loud (refine (loose_at _ _ n l _ HN.out HL.out).mono ?_; rintro e w1 ⟨rfl, b1⟩; have HB1 := Lib.hid b1; have HN1 := Lib.hid (HN.out.below b1); clear b1; rw [HLL.out]))
    | (go_at_call 14; go_loud (refine (pshrink_any _ _ n l k _ HN1.out HL.out HLL.out hn9 HA.out hk).mono ?_; rintro e w3 ⟨v2, cur, j, rfl, s1, s2, s3, s4, s5, s6⟩; obtain ⟨A2, c2, hv2, hn2, _, hA2⟩ := s1.shape; have HV2 := Lib.hid hv2; have HN2 := Lib.hid hn2; have HO2 := Lib.hid s1; have HCL := Lib.hid s2; have HJ := Lib.hid s3; have HJD := Lib.hid s4; have HCN := Lib.hid s5; have HB3 := Lib.hid s6; subst hv2; clear hn2 hA2 s1 s2 s3 s4 s5 s6))
    | (go_at_call 16; go_loud (refine (ordered_any A2 c2 cur.length j cur _ HN2.out rfl (by have := HCN.out; have := HL.out; omega) HCL.out HJ.out (fun a ea => (HO2.out.lt a.block (by rw [ea]; rfl)).2)).mono ?_; rintro e w4 ⟨v4, rfl, o4, b4⟩; obtain ⟨A4, c4, hv4, hn4, hA4, hB4⟩ := o4.shape; have HN4 := Lib.hid hn4; have HA4 := Lib.hid hA4; have HBL4 := Lib.hid hB4; have HB4 := Lib.hid b4; obtain ⟨qn, hqn⟩ : ∃ qn, qn = (enc (den cur j) []).1.length := ⟨_, rfl⟩; rw [← hqn] at hv4; have HQN := Lib.hid hqn; subst hv4; have hcg := (b4.block w.heap.size (Nat.lt_of_lt_of_le (box_lt HGC.out) (Nat.le_trans HB1.out.size HB3.out.size))).trans ((HB3.out.block w.heap.size (Nat.lt_of_lt_of_le (box_lt HGC.out) HB1.out.size)).trans ((HB1.out.block w.heap.size (box_lt HGC.out)).trans HGC.out)); have cg := one_cell hcg; have fg := one_free hcg; clear o4 b4 hn4 hA4 hB4 hqn hcg)))
  have e1 := World.cell?_setCell_same _ _ (.slice A4 qn c4) cg
  refine bodyPost_ret (v := .tuple #[.agg #[.slice A4 qn c4], .int .i64 0]) (by simp [results, Try.results6, go_sem, e1]) rfl ?_
  rw [HR.out]
  have hq7 : (enc (den cur j) []).1 = ofQ l (k : Int) := by rw [HJD.out, HQ.out.1]; rfl
  have hqn := HQN.out
  have HN5 := HN4.out
  rw [hq7] at hqn HN5
  have hlt : w.heap.size < w3.heap.size := Nat.lt_of_lt_of_le (box_lt HGC.out) (Nat.le_trans HB1.out.size HB3.out.size)
  refine ⟨A4, c4, by rw [HQ.out.2, hqn], ?_, HA4.out, ?_⟩
  · exact HN5.gbr (gb_setCell _ _ _) (fun a ea e => by have h1 := HBL4.out a ea; have h3 : a.block = w.heap.size := Option.some.inj e; omega)
  · exact ((HB.out.trans ((HB1.out.trans ((HB3.out.trans (HB4.out.mono HB3.out.size)).mono HB1.out.size)).mono HB.out.size))).setCell (Nat.le_refl _) _
theorem pof_any (A : Option Addr) (c n : Nat) (l : List Nd) (k : Int) (w : World) (h : Ns w A c l) (hn : l.length = n) (hn9 : n ≤ 900000) (hA : A = none → c = 0) :
    Calls Try.prog 6 #[.slice A n c, .int .i64 k] w (RetO l k w) := by
  cases hl : looseB l with
  | false => exact pof_no A c n l k w h hn (.inl hl)
  | true =>
    by_cases hk : 0 ≤ k ∧ k ≤ (n : Int)
    · obtain ⟨j, rfl⟩ : ∃ j : Nat, k = j := ⟨k.toNat, by omega⟩
      exact pof_yes A c n j l w h hn hn9 hl (by omega) hA
    · exact pof_no A c n l k w h hn (.inr (by omega))
end Go.Proofs.Ytbcolelgbbmjkaa
