/-
  canon: the reference's Of.
  canon: slices.Clone, inner.
  canon: bared.
  canon: Shrink.
  canon: a map that knows each node's number in a list.
  canon: the maps of ordered.
-/
import Derived.Test.YtmfncapgikobkaaGreatGNcRV
import Derived.Deep.DeepCutAuto
import Derived.Test.YtmfncapgikobkaaGreatLay0

namespace Go.Proofs.YtmfncapgikobkaaGreat
set_option maxRecDepth 100000
set_option linter.unusedVariables false
set_option linter.unusedSimpArgs false
open Go.RowKit Nds
theorem one_cell {w : World} {g : Nat} {u : Value} {t : TypeId} (h : w.heap[g]? = some (.cells #[u] t)) : w.cell? ⟨g, 0, none⟩ = some u := by
 rw [cell_of_row w g _ _ _ _ h]
 rfl
theorem one_free {w : World} {g : Nat} {u : Value} {t : TypeId} (h : w.heap[g]? = some (.cells #[u] t)) : w.frozen? ⟨g, 0, none⟩ = false := frozen_of_row w g 0 _ _ h
set_option maxRecDepth 100000 in
set_option maxHeartbeats 3200000 in
theorem rof_no (A : Option Addr) (c n : Nat) (l : List Nd) (k : Int) (w : World) (h : Ns w A c l) (hn : l.length = n) (hno : looseB l = false ∨ k < 0 ∨ (n : Int) < k) :
  Calls Tryz.prog 13 #[.slice A n c, .int .i64 k] w (RetO l k w) := by
 have hcap := h.cap
 rw [hn] at hcap
 have hR := ofQ_no (okB_no (by rw [hn]; exact hno))
 obtain ⟨R, hRR⟩ : ∃ R, R = RetO l k w := ⟨_, rfl⟩
 rw [← hRR]
 have HR := Lib.hid hRR
 have HQ := Lib.hid hR
 have hb := (Below.refl w.heap.size w).alloc (Nat.le_refl _) (.cells #[.slice none 0 0] 27)
 have HB := Lib.hid hb
 have HN := Lib.hid (h.below hb)
 have HL := Lib.hid hn
 have hgc : (w.alloc (.cells #[.slice none 0 0] 27)).heap[w.heap.size]? = some (.cells #[.slice none 0 0] 27) := heap_alloc_new w _
 have HGC := Lib.hid hgc
 have hlt : w.heap.size < (w.alloc (.cells #[.slice none 0 0] 27)).heap.size := by simp
 have HLT := Lib.hid hlt
 have hcases : looseB l = false ∨ (looseB l = true ∧ k < 0) ∨ (looseB l = true ∧ 0 ≤ k ∧ (n : Int) < k) := by
  cases hq : looseB l
  ·
   exact .inl rfl
  ·
   rcases hno with h | h
   ·
    rw [hq] at h; cases h
   ·
    rcases h with h | h
    ·
     exact .inr (.inl ⟨rfl, h⟩)
    ·
     by_cases h0 : k < 0
     ·
      exact .inr (.inl ⟨rfl, h0⟩)
     ·
      exact .inr (.inr ⟨rfl, by omega, h⟩)
 clear h hn hno hb hgc hlt hR hRR
 rcases hcases with hq | ⟨hq, h0⟩ | ⟨hq, h0, h1⟩
 all_goals
  have HLL := Lib.hid hq
  clear hq
  go_enter Tryz.func13, Tryz.ntmps13
  go_wp2_with (go_at_call 35; go_loud (refine (rloose_b _ _ n l _ HN.out HL.out).mono ?_; rintro e w1 ⟨rfl, b1⟩; have HB1 := Lib.hid b1; have hcg := (b1.block w.heap.size HLT.out).trans HGC.out; have cg := one_cell hcg; have fg := one_free hcg; clear b1 hcg; rw [HLL.out]))
  have e1 := World.cell?_setCell_same _ _ (.slice none 0 0) cg
  refine bodyPost_ret (v := .tuple #[.agg #[.slice none 0 0], .int .i64 1]) (by simp [results, Tryz.results13, go_sem, e1]) rfl ?_
  rw [HR.out]
  refine ⟨none, 0, ?_, ?_, fun _ => rfl, (HB.out.trans (HB1.out.mono HB.out.size)).setCell (Nat.le_refl _) _⟩
  ·
   rw [HQ.out.1, HQ.out.2]
   rfl
  ·
   rw [HQ.out.1]
   exact ns_nil _
theorem noper_make_full {P : Program} {w : World} {o : Oper} {a : Act} {K : Act → World → Prop} {Q : Exit → Act → World → Prop}
  (l c : Operand) (t : TypeId) (hop : o.op = Op.makeSlice t l c)
  (base : Nat) (e : TypeId) (i : TypeInfo) (z : Value) (size : Nat) (h1 : P.underlying t = some (.slice e)) (h2 : P.info? e = some i) (h3 : i.zero = some z) (h4 : i.size = size)
  (kl kc : IntKind) (L C : Int) (n : Nat) (hl : a.eval l = .int kl L) (hc : a.eval c = .int kc C) (hL : L = (n : Int)) (hC : C = (n : Int)) (b2 : i.bytes * n ≤ 281474976710656) (b3 : n ≤ maxLen) (b4 : base ≤ w.heap.size)
  (hK : ∀ w', w'.ownsRow base e size (.slice (some ⟨w.heap.size, 0, none⟩) n n) n (madeCells z.cells (n * size)).toList → w.grownBy w' none → K (a.put o.dst (.slice (some ⟨w.heap.size, 0, none⟩) n n)) w') :
  Oper.wp P o a w K Q := by
 obtain ⟨w', hrun, r1, r2⟩ := run_make_full (P := P) w base t e i z size h1 h2 h3 h4 kl kc n b2 b3 b4
 subst hL
 subst hC
 unfold Oper.wp
 simp [execOp, hop, hl, hc, hrun, Result.andThen]
 exact hK w' r1 r2
theorem dn_nil (l : List Nd) (n : Nat) : Dn l [] (List.replicate n 0) := by
 intro i hi h0
 exfalso
 rw [List.getD_eq_getElem?_getD, List.getElem?_replicate] at h0
 split at h0 <;> simp at h0
set_option maxRecDepth 100000 in
set_option maxHeartbeats 3200000 in
theorem rof_yes (A : Option Addr) (c n k : Nat) (l : List Nd) (w : World) (h : Ns w A c l) (hn : l.length = n) (hn9 : n ≤ 900000) (hl : looseB l = true) (hk : k ≤ n) (hA : A = none → c = 0) :
  Calls Tryz.prog 13 #[.slice A n c, .int .i64 (k : Int)] w (RetO l (k : Int) w) := by
 have hcap := h.cap
 rw [hn] at hcap
 have HQ := Lib.hid (ofQ_yes hl (n := k) (by omega))
 obtain ⟨i0, hi, hz0, hz1, hz2⟩ := info_parts Tryz.infoI
 have HI := Lib.hid (And.intro hi (And.intro hz0 (And.intro hz1 hz2)))
 obtain ⟨R, hRR⟩ : ∃ R, R = RetO l (k : Int) w := ⟨_, rfl⟩
 rw [← hRR]
 have HR := Lib.hid hRR
 have hb := (Below.refl w.heap.size w).alloc (Nat.le_refl _) (.cells #[.slice none 0 0] 27)
 have HB := Lib.hid hb
 have HN := Lib.hid (h.below hb)
 have HL := Lib.hid hn
 have HLL := Lib.hid hl
 have HA := Lib.hid hA
 have hgc : (w.alloc (.cells #[.slice none 0 0] 27)).heap[w.heap.size]? = some (.cells #[.slice none 0 0] 27) := heap_alloc_new w _
 have HGC := Lib.hid hgc
 have hlt : w.heap.size < (w.alloc (.cells #[.slice none 0 0] 27)).heap.size := by simp
 have HLT := Lib.hid hlt
 have t0 : decide ((k : Int) < 0) = false := decide_eq_false (by omega)
 have t1 : decide ((n : Int) < (k : Int)) = false := decide_eq_false (by omega)
 clear h hn hb hgc hlt hRR hi hz0 hz1 hz2 hA hl
 go_enter Tryz.func13, Tryz.ntmps13
 go_wp2_with (first
  | (go_at_call 35; go_loud (refine (rloose_b _ _ n l _ HN.out HL.out).mono ?_; rintro e w1 ⟨rfl, b1⟩; have HB1 := Lib.hid b1; have HN1 := Lib.hid (HN.out.below b1); clear b1; rw [HLL.out]))
  | (go_at_call 36; go_loud (refine (rshrink_any _ _ n l k _ HN1.out HL.out HLL.out hn9 HA.out hk).mono ?_; rintro e w3 ⟨v2, cur, j, rfl, s1, s2, s3, s4, s5, s6⟩; obtain ⟨A2, c2, hv2, hn2, _, hA2⟩ := s1.shape; have HV2 := Lib.hid hv2; have HN2' := Lib.hid hn2; have HO2 := Lib.hid s1; have HCL := Lib.hid s2; have HJ := Lib.hid s3; have HJD := Lib.hid s4; have HCN' := Lib.hid s5; have HB3 := Lib.hid s6; clear hv2 hn2 hA2 s1 s2 s3 s4 s5 s6)))
 have hv2 := HV2.out
 obtain ⟨cn, hcn⟩ : ∃ cn, cn = cur.length := ⟨_, rfl⟩
 rw [← hcn] at hv2
 subst hv2
 have HCN := Lib.hid hcn
 have hcn9 : cn ≤ 901329 := by have := HCN'.out; have := HL.out; omega
 have hc2 := HN2'.out.cap
 rw [← hcn] at hc2
 have HBW3 := Lib.hid (HB.out.trans ((HB1.out.trans (HB3.out.mono HB1.out.size)).mono HB.out.size))
 have HGQ3 := Lib.hid ((HB3.out.block w.heap.size (Nat.lt_of_lt_of_le HLT.out HB1.out.size)).trans ((HB1.out.block w.heap.size HLT.out).trans HGC.out))
 clear hcn
 refine wp_region_noPanic ?_
 refine wp_region_held (S := fun _ => True) (by kernel_rfl) ?_
 obtain ⟨W0, hW0⟩ : ∃ W0 : World, W0 = w3.drew := ⟨_, rfl⟩
 have HN2 := Lib.hid (show Ns W0 A2 c2 cur by rw [hW0]; exact HN2'.out.drew)
 have HBW := Lib.hid (show Below w.heap.size w W0 by rw [hW0]; exact Below.drew HBW3.out)
 have HGQ := Lib.hid (show W0.heap[w.heap.size]? = some (.cells #[.slice none 0 0] 27) by rw [hW0]; exact HGQ3.out)
 have HLQ := Lib.hid (show w.heap.size < W0.heap.size from (Array.getElem?_eq_some_iff.1 HGQ.out).1)
 have HA2 := Lib.hid (show ∀ a, A2 = some a → a.block < W0.heap.size from fun a ea => by rw [hW0]; exact (HO2.out.lt a.block (by rw [ea]; rfl)).2)
 have HLV := Lib.hid (show 0 < j → (at_ cur (j - 1)).lv ≤ ((1329 : Nat) : Int) from fun h0 => (fit_lv (loose_fit HCL.out (by have := HJ.out; omega))).2)
 have B0 := Lib.hid (Below.refl W0.heap.size W0)
 have e0 : IntKind.i64.wrap ((cn : Int) + 1) = (cn : Int) + 1 := IntWalk.i64_in _ (by omega)
 change wpAnyH _ _ _ _ _ _ _ _ w3.drew
 rw [← hW0]
 clear hW0
 refine wpAnyH_take (i := 0) (v := ?_) rfl (by kernel_rfl) (by kernel_rfl) (by kernel_rfl) (fun _ _ _ h => h) (Or.inl ⟨by rfl, ?_⟩) trivial ?_
 rotate_left
 ·
  rintro w' _
  go_simp
  first | done | with_reducible rfl | rfl
 simp only [Act.put, LA]
 refine wpAnyH_take (i := 1) (v := ?_) rfl (by kernel_rfl) (by kernel_rfl) (by kernel_rfl) (fun _ _ _ h => h) (Or.inl ⟨by rfl, ?_⟩) trivial ?_
 rotate_left
 ·
  rintro w' _
  go_simp
  first | done | with_reducible rfl | rfl
 simp only [Act.put, LA]
 refine wpAnyH_take (i := 3) (v := ?_) rfl (by kernel_rfl) (by kernel_rfl) (by kernel_rfl) (fun _ _ _ h => h) (Or.inl ⟨by rfl, ?_⟩) trivial ?_
 rotate_left
 ·
  rintro w' _
  go_simp
  first | done | with_reducible rfl | rfl
 simp only [Act.put, LA]
 refine wpAnyH_take (i := 4) (v := ?_) rfl (by kernel_rfl) (by kernel_rfl) (by kernel_rfl) (fun _ _ _ h => h) (Or.inl ⟨by rfl, ?_⟩) trivial ?_
 rotate_left
 ·
  rintro w' _
  go_simp
  first | done | with_reducible rfl | rfl
 simp only [Act.put, LA]
 refine wpAnyH_take (i := 5) (v := ?_) rfl (by kernel_rfl) (by kernel_rfl) (by kernel_rfl) (fun _ _ _ h => h) (Or.inl ⟨by rfl, ?_⟩) trivial ?_
 rotate_left
 ·
  rintro w' _
  go_simp
  first | done | with_reducible rfl | rfl
 simp only [Act.put, LA]
 refine wpAnyH_take (i := 6) (v := ?_) rfl (by kernel_rfl) (by kernel_rfl) (by kernel_rfl) (fun _ _ _ h => h) (Or.inl ⟨by rfl, ?_⟩) trivial ?_
 rotate_left
 ·
  rintro w' _
  go_simp
  first | done | with_reducible rfl | rfl
 simp only [Act.put, LA]
 refine wpAnyH_ready (rs := [2, 7]) (by kernel_rfl) (by simp) (AllReadyH.cons rfl (fun K hK => ?_) (AllReadyH.cons rfl (fun K hK => ?_) AllReadyH.nil))
 ·
  go_simp
  refine (empties_any A2 c2 cn cur _ (HN2.out.below B0.out) HCN.out.symm HCL.out (by omega)).mono ?_
  rintro e W4 ⟨E, rfl, x1, x2, x3, x4⟩
  dsimp only
  have B4 := Lib.hid (B0.out.trans (x4.mono B0.out.size))
  have HE1 := Lib.hid x1
  have HE3 := Lib.hid x3
  have HE4 := Lib.hid x4
  have HE2 := Lib.hid x2
  refine hK.out _ _ trivial (fun _ => ?_)
  clear hK K x1 x2 x3 x4
  refine wpAnyH_ready (rs := [7]) (by kernel_rfl) (by simp) (AllReadyH.cons rfl (fun K hK => ?_) AllReadyH.nil)
  rw [if_pos (by rfl)]
  refine noper_make_full (.tmp 38) (.tmp 38) 67 rfl W0.heap.size 3 i0 _ 1 Tryz.underlying67 HI.out.1 HI.out.2.1 HI.out.2.2.1 .i64 .i64 _ _ (cn + 1) rfl rfl (by omega) (by omega) (by rw [HI.out.2.2.2]; omega) (by unfold maxLen; omega) B4.out.size ?_
  intro W5 own grow
  simp only [Act.put, LA]
  have B5 := Lib.hid (B4.out.grown grow B4.out.size (fun k hk => by cases hk))
  have OD := Lib.hid (OwnD.made own)
  have GR := Lib.hid grow
  refine hK.out _ _ trivial (fun _ => ?_)
  clear hK K own grow
  have HEG := Lib.hid (show E ≠ W4.heap.size by have := HE2.out; omega)
  have HGB := Lib.hid (show W0.heap.size ≤ W4.heap.size from B4.out.size)
  have HEC := Lib.hid (show ∀ i, i ≤ cn → W5.cell? ⟨E, i, none⟩ = some (.bool (empB cur i)) from fun i hi => (World.cell?_of_block (w := W4) (GR.out.block E HE2.out (by simp))).trans (HE3.out i hi))
  have HNV := Lib.hid (HN2.out.below B5.out)
  have hsz := B5.out.size
  refine wpAnyH_ready (rs := [8]) (by kernel_rfl) (by simp) (AllReadyH.cons rfl (fun K hK => ?_) AllReadyH.nil)
  go_simp
  refine (rvisit_rec A2 c2 cn E W0.heap.size _ cur HCL.out HCN.out.symm (by omega) HA2.out HEG.out HGB.out 1329 j [] (List.replicate (cn + 1) 0) (.slice none 0 0) _ (by rw [HCN.out]; exact HJ.out) HLV.out (inv_nil _) (dn_nil _ _) HNV.out HEC.out (ownN_none _ _) OD.out (by simp [Value.ownBlock]) (by simp [Value.ownBlock]) hsz).mono ?_
  rintro e W7 ⟨v7, ds7, rfl, z1, z2, z3, z4, z5, z6⟩
  dsimp only
  obtain ⟨A7, c7, hv7, hn7, hA7, hA7b⟩ := z1.shape
  have hA7bb := Lib.hid hA7b
  clear hA7b
  obtain ⟨qn, hqn⟩ : ∃ qn, qn = (enc (den cur j) []).1.length := ⟨_, rfl⟩
  rw [← hqn] at hv7
  subst hv7
  have HQN := Lib.hid hqn
  have B7 := Lib.hid (B5.out.trans (z6.to hsz (fun k hk => by
   rcases hk with h | h
   ·
    subst h; exact HGB.out
   ·
    simp [Value.ownBlock] at h)))
  have HN7 := Lib.hid hn7
  have HA7 := Lib.hid hA7
  refine hK.out _ _ trivial (fun _ => ?_)
  clear hK K z1 z2 z3 z4 z5 z6 hn7 hA7 hqn
  refine wpAnyH_take (i := 9) (v := ?_) rfl (by kernel_rfl) (by kernel_rfl) (by kernel_rfl) (fun _ _ _ h => h) (Or.inl ⟨by rfl, ?_⟩) trivial ?_
  rotate_left
  ·
   rintro w' _
   go_simp
   first | done | with_reducible rfl | rfl
  simp only [Act.put, LA]
  refine wpAnyH_take (i := 10) (v := ?_) rfl (by kernel_rfl) (by kernel_rfl) (by kernel_rfl) (fun _ _ _ h => h) (Or.inl ⟨by rfl, ?_⟩) trivial ?_
  rotate_left
  ·
   rintro w' _
   go_simp
   first | done | with_reducible rfl | rfl
  simp only [Act.put, LA]
  refine wpAnyH_take (i := 11) (v := ?_) rfl (by kernel_rfl) (by kernel_rfl) (by kernel_rfl) (fun _ _ _ h => h) (Or.inl ⟨by rfl, ?_⟩) trivial ?_
  rotate_left
  ·
   rintro w' _
   go_simp
   first | done | with_reducible rfl | rfl
  simp only [Act.put, LA]
  refine wpAnyH_take (i := 12) (v := ?_) rfl (by kernel_rfl) (by kernel_rfl) (by kernel_rfl) (fun _ _ _ h => h) (Or.inl ⟨by rfl, ?_⟩) trivial ?_
  rotate_left
  ·
   rintro w' _
   go_simp
   first | done | with_reducible rfl | rfl
  simp only [Act.put, LA]
  refine wpAnyH_take (i := 13) (v := ?_) rfl (by kernel_rfl) (by kernel_rfl) (by kernel_rfl) (fun _ _ _ h => h) (Or.inl ⟨by rfl, ?_⟩) trivial ?_
  rotate_left
  ·
   rintro w' _
   go_simp
   first | done | with_reducible rfl | rfl
  simp only [Act.put, LA]
  refine wpAnyH_take (i := 14) (v := ?_) rfl (by kernel_rfl) (by kernel_rfl) (by kernel_rfl) (fun _ _ _ h => h) (Or.inl ⟨by rfl, ?_⟩) trivial ?_
  rotate_left
  ·
   rintro w' _
   go_simp
   first | done | with_reducible rfl | rfl
  simp only [Act.put, LA]
  refine wpAnyH_take (i := 15) (v := ?_) rfl (by kernel_rfl) (by kernel_rfl) (by kernel_rfl) (fun _ _ _ h => h) (Or.inl ⟨by rfl, ?_⟩) trivial ?_
  rotate_left
  ·
   rintro w' _
   go_simp
   first | done | with_reducible rfl | rfl
  simp only [Act.put, LA]
  refine wpAnyH_done (by kernel_rfl) ?_ _
  refine NoPanic.normal ?_
  have hc7 := (B7.out.block _ HLQ.out).trans HGQ.out
  have cg := one_cell hc7
  have fg := one_free hc7
  clear hc7
  go_wp2_with fail
  have e1 := World.cell?_setCell_same _ _ (.slice A7 qn c7) cg
  refine bodyPost_ret (v := .tuple #[.agg #[.slice A7 qn c7], .int .i64 0]) (by simp [results, Tryz.results13, go_sem, e1]) rfl ?_
  rw [HR.out]
  have hq7 : (enc (den cur j) []).1 = ofQ l (k : Int) := by rw [HJD.out, HQ.out.1]; rfl
  have hqn := HQN.out
  rw [hq7] at hqn HN7
  have hA7b := hA7bb.out
  refine ⟨A7, c7, ?_, ?_, HA7.out, (HBW.out.trans (B7.out.mono HBW.out.size)).setCell (Nat.le_refl _) _⟩
  ·
   rw [HQ.out.2, hqn]
  ·
   exact HN7.out.gbr (gb_setCell _ _ _) (fun a ea e => by have h1 := hA7b a ea; have h2 := HLQ.out; have h3 : a.block = w.heap.size := Option.some.inj e; omega)
 ·
  rw [if_pos (by rfl)]
  refine noper_make_full (.tmp 38) (.tmp 38) 67 rfl W0.heap.size 3 i0 _ 1 Tryz.underlying67 HI.out.1 HI.out.2.1 HI.out.2.2.1 .i64 .i64 _ _ (cn + 1) rfl rfl (by omega) (by omega) (by rw [HI.out.2.2.2]; omega) (by unfold maxLen; omega) B0.out.size ?_
  intro W4 own grow
  simp only [Act.put, LA]
  have B4 := Lib.hid (B0.out.grown grow B0.out.size (fun k hk => by cases hk))
  have OD := Lib.hid (OwnD.made own)
  have GR := Lib.hid grow
  refine hK.out _ _ trivial (fun _ => ?_)
  clear hK K own grow
  refine wpAnyH_ready (rs := [2]) (by kernel_rfl) (by simp) (AllReadyH.cons rfl (fun K hK => ?_) AllReadyH.nil)
  go_simp
  refine (empties_any A2 c2 cn cur _ (HN2.out.below B4.out) HCN.out.symm HCL.out (by omega)).mono ?_
  rintro e W5 ⟨E, rfl, x1, x2, x3, x4⟩
  dsimp only
  have B5 := Lib.hid (B4.out.trans (x4.mono B4.out.size))
  have HE1 := Lib.hid x1
  have HE3 := Lib.hid x3
  have HE4 := Lib.hid x4
  have HE2 := Lib.hid x2
  refine hK.out _ _ trivial (fun _ => ?_)
  clear hK K x1 x2 x3 x4
  have HEG := Lib.hid (show E ≠ W0.heap.size by have := HE1.out; have := OD.out.lt.2; omega)
  have HGB := Lib.hid (Nat.le_refl W0.heap.size)
  have HEC := Lib.hid HE3.out
  have OD := Lib.hid (show OwnD W5 W0.heap.size W0.heap.size (cn + 1) (List.replicate (cn + 1) 0) from OD.out.gbr (row := none) ⟨HE4.out.os, HE4.out.tape, HE4.out.output, HE4.out.size, fun i hi _ => HE4.out.block i hi⟩ (by simp))
  have HNV := Lib.hid (HN2.out.below B5.out)
  have hsz := B5.out.size
  refine wpAnyH_ready (rs := [8]) (by kernel_rfl) (by simp) (AllReadyH.cons rfl (fun K hK => ?_) AllReadyH.nil)
  go_simp
  refine (rvisit_rec A2 c2 cn E W0.heap.size _ cur HCL.out HCN.out.symm (by omega) HA2.out HEG.out HGB.out 1329 j [] (List.replicate (cn + 1) 0) (.slice none 0 0) _ (by rw [HCN.out]; exact HJ.out) HLV.out (inv_nil _) (dn_nil _ _) HNV.out HEC.out (ownN_none _ _) OD.out (by simp [Value.ownBlock]) (by simp [Value.ownBlock]) hsz).mono ?_
  rintro e W7 ⟨v7, ds7, rfl, z1, z2, z3, z4, z5, z6⟩
  dsimp only
  obtain ⟨A7, c7, hv7, hn7, hA7, hA7b⟩ := z1.shape
  have hA7bb := Lib.hid hA7b
  clear hA7b
  obtain ⟨qn, hqn⟩ : ∃ qn, qn = (enc (den cur j) []).1.length := ⟨_, rfl⟩
  rw [← hqn] at hv7
  subst hv7
  have HQN := Lib.hid hqn
  have B7 := Lib.hid (B5.out.trans (z6.to hsz (fun k hk => by
   rcases hk with h | h
   ·
    subst h; exact HGB.out
   ·
    simp [Value.ownBlock] at h)))
  have HN7 := Lib.hid hn7
  have HA7 := Lib.hid hA7
  refine hK.out _ _ trivial (fun _ => ?_)
  clear hK K z1 z2 z3 z4 z5 z6 hn7 hA7 hqn
  refine wpAnyH_take (i := 9) (v := ?_) rfl (by kernel_rfl) (by kernel_rfl) (by kernel_rfl) (fun _ _ _ h => h) (Or.inl ⟨by rfl, ?_⟩) trivial ?_
  rotate_left
  ·
   rintro w' _
   go_simp
   first | done | with_reducible rfl | rfl
  simp only [Act.put, LA]
  refine wpAnyH_take (i := 10) (v := ?_) rfl (by kernel_rfl) (by kernel_rfl) (by kernel_rfl) (fun _ _ _ h => h) (Or.inl ⟨by rfl, ?_⟩) trivial ?_
  rotate_left
  ·
   rintro w' _
   go_simp
   first | done | with_reducible rfl | rfl
  simp only [Act.put, LA]
  refine wpAnyH_take (i := 11) (v := ?_) rfl (by kernel_rfl) (by kernel_rfl) (by kernel_rfl) (fun _ _ _ h => h) (Or.inl ⟨by rfl, ?_⟩) trivial ?_
  rotate_left
  ·
   rintro w' _
   go_simp
   first | done | with_reducible rfl | rfl
  simp only [Act.put, LA]
  refine wpAnyH_take (i := 12) (v := ?_) rfl (by kernel_rfl) (by kernel_rfl) (by kernel_rfl) (fun _ _ _ h => h) (Or.inl ⟨by rfl, ?_⟩) trivial ?_
  rotate_left
  ·
   rintro w' _
   go_simp
   first | done | with_reducible rfl | rfl
  simp only [Act.put, LA]
  refine wpAnyH_take (i := 13) (v := ?_) rfl (by kernel_rfl) (by kernel_rfl) (by kernel_rfl) (fun _ _ _ h => h) (Or.inl ⟨by rfl, ?_⟩) trivial ?_
  rotate_left
  ·
   rintro w' _
   go_simp
   first | done | with_reducible rfl | rfl
  simp only [Act.put, LA]
  refine wpAnyH_take (i := 14) (v := ?_) rfl (by kernel_rfl) (by kernel_rfl) (by kernel_rfl) (fun _ _ _ h => h) (Or.inl ⟨by rfl, ?_⟩) trivial ?_
  rotate_left
  ·
   rintro w' _
   go_simp
   first | done | with_reducible rfl | rfl
  simp only [Act.put, LA]
  refine wpAnyH_take (i := 15) (v := ?_) rfl (by kernel_rfl) (by kernel_rfl) (by kernel_rfl) (fun _ _ _ h => h) (Or.inl ⟨by rfl, ?_⟩) trivial ?_
  rotate_left
  ·
   rintro w' _
   go_simp
   first | done | with_reducible rfl | rfl
  simp only [Act.put, LA]
  refine wpAnyH_done (by kernel_rfl) ?_ _
  refine NoPanic.normal ?_
  have hc7 := (B7.out.block _ HLQ.out).trans HGQ.out
  have cg := one_cell hc7
  have fg := one_free hc7
  clear hc7
  go_wp2_with fail
  have e1 := World.cell?_setCell_same _ _ (.slice A7 qn c7) cg
  refine bodyPost_ret (v := .tuple #[.agg #[.slice A7 qn c7], .int .i64 0]) (by simp [results, Tryz.results13, go_sem, e1]) rfl ?_
  rw [HR.out]
  have hq7 : (enc (den cur j) []).1 = ofQ l (k : Int) := by rw [HJD.out, HQ.out.1]; rfl
  have hqn := HQN.out
  rw [hq7] at hqn HN7
  have hA7b := hA7bb.out
  refine ⟨A7, c7, ?_, ?_, HA7.out, (HBW.out.trans (B7.out.mono HBW.out.size)).setCell (Nat.le_refl _) _⟩
  ·
   rw [HQ.out.2, hqn]
  ·
   exact HN7.out.gbr (gb_setCell _ _ _) (fun a ea e => by have h1 := hA7b a ea; have h2 := HLQ.out; have h3 : a.block = w.heap.size := Option.some.inj e; omega)
theorem rof_any (A : Option Addr) (c n : Nat) (l : List Nd) (k : Int) (w : World) (h : Ns w A c l) (hn : l.length = n) (hn9 : n ≤ 900000) (hA : A = none → c = 0) :
  Calls Tryz.prog 13 #[.slice A n c, .int .i64 k] w (RetO l k w) := by
 cases hl : looseB l with
 | false => exact rof_no A c n l k w h hn (.inl hl)
 | true =>
  by_cases hk : 0 ≤ k ∧ k ≤ (n : Int)
  ·
   obtain ⟨j, rfl⟩ : ∃ j : Nat, k = j := ⟨k.toNat, by omega⟩
   exact rof_yes A c n j l w h hn hn9 hl (by omega) hA
  ·
   exact rof_no A c n l k w h hn (.inr (by omega))
end Go.Proofs.YtmfncapgikobkaaGreat

namespace Go.Proofs.YtmfncapgikobkaaGreat
set_option maxRecDepth 100000
set_option linter.unusedVariables false
set_option linter.unusedSimpArgs false
open Go.RowKit Nds
theorem NdBox.put {w : World} {g : Nat} {x : Nd} (h : NdBox w g x) (y : Nd) : NdBox (((((w.setCell ⟨g, 0, none⟩ (.int .i64 y.lv)).setCell ⟨g, 1, none⟩ (.int .i64 y.a)).setCell ⟨g, 2, none⟩ (.int .i64 y.b)).setCell ⟨g, 3, none⟩ (.int .i64 y.c)).setCell ⟨g, 4, none⟩ (.int .i64 y.d)) g y :=
 heap_setCell_same _ g 4 _ _ _ (heap_setCell_same _ g 3 _ _ _ (heap_setCell_same _ g 2 _ _ _ (heap_setCell_same _ g 1 _ _ _ (heap_setCell_same _ g 0 _ _ _ h))))
end Go.Proofs.YtmfncapgikobkaaGreat

namespace Go.Proofs.YtmfncapgikobkaaGreat
set_option maxRecDepth 100000
set_option linter.unusedVariables false
set_option linter.unusedSimpArgs false
open Go.RowKit Nds
def setK (x : Nd) (k : Nat) (u : Int) : Nd := match k with | 0 => { x with a := u } | 1 => { x with b := u } | 2 => { x with c := u } | _ => { x with d := u }
theorem setK_wf {x : Nd} (h : x.wf) (k : Nat) {u : Int} (hu : in64 u) : (setK x k u).wf := by
 obtain ⟨h0, h1, h2, h3, h4⟩ := h
 match k with
 | 0 => exact ⟨h0, hu, h2, h3, h4⟩
 | 1 => exact ⟨h0, h1, hu, h3, h4⟩
 | 2 => exact ⟨h0, h1, h2, hu, h4⟩
 | _ + 3 => exact ⟨h0, h1, h2, h3, hu⟩
theorem ndcs_set : ∀ (l : List Nd) (i k : Nat) (u : Int), i < l.length → k < 4 → (ndcs l).set (i * 5 + 1 + k) (.int .i64 u) = ndcs (l.set i (setK (at_ l i) k u))
 | [], i, k, u, hi, _ => by simp at hi
 | x :: l, 0, k, u, _, hk => by
  show (ndc x ++ ndcs l).set (0 * 5 + 1 + k) _ = ndc (setK x k u) ++ ndcs l
  match k, hk with
  | 0, _ => rfl
  | 1, _ => rfl
  | 2, _ => rfl
  | 3, _ => rfl
 | x :: l, i + 1, k, u, hi, hk => by
  show (ndc x ++ ndcs l).set ((i + 1) * 5 + 1 + k) _ = ndc x ++ ndcs (l.set i (setK (at_ l i) k u))
  rw [List.set_append_right _ _ (by show 5 ≤ _; omega), ← ndcs_set l i k u (by simpa using hi) hk]
  congr 2
  show (i + 1) * 5 + 1 + k - 5 = _
  omega
theorem OwnN.setKid {w : World} {base g n cap : Nat} {l : List Nd} (h : OwnN w base (.slice (some ⟨g, 0, none⟩) n cap) l) (hn : l.length = n) {i k o : Nat} {u : Int} (hi : i < n) (hk : k < 4) (ho : o = i * 5 + 1 + k) (hu : in64 u) :
  OwnN (w.setCell ⟨g, o, none⟩ (.int .i64 u)) base (.slice (some ⟨g, 0, none⟩) n cap) (l.set i (setK (at_ l i) k u)) := by
 subst hn
 subst ho
 refine ⟨fun x hx => ?_, ?_⟩
 ·
  rcases List.mem_or_eq_of_mem_set hx with hx | rfl
  ·
   exact h.1 x hx
  ·
   exact setK_wf (h.1 _ (at_mem hi)) k hu
 ·
  have := (h.2.stored (i * 5 + 1 + k) (.int .i64 u)).1
  rw [ndcs_set l i k u hi hk] at this
  rw [List.length_set]
  exact this
end Go.Proofs.YtmfncapgikobkaaGreat

namespace Go.Proofs.YtmfncapgikobkaaGreat
set_option maxRecDepth 100000
set_option linter.unusedVariables false
set_option linter.unusedSimpArgs false
open Go.RowKit Nds
structure Two (w : World) (base : Nat) (v u : Value) (L M : List Nd) (W : World) : Prop where
 one : OwnN W base v L
 two : OwnN W base u M
 apart : ∀ k, v.ownBlock = some k → u.ownBlock ≠ some k
 low : base ≤ W.heap.size
 below : Below base w W
theorem OwnN.mono {w : World} {base b : Nat} {v : Value} {l : List Nd} (h : OwnN w base v l) (hb : b ≤ base) : OwnN w b v l := by
 refine ⟨h.1, h.2.1, ?_⟩
 rcases h.2.2 with h2 | ⟨g, cap, cur, hv, hg, r⟩
 ·
  exact .inl h2
 ·
  exact .inr ⟨g, cap, cur, hv, Nat.le_trans hb hg, r⟩
theorem Two.alloc {w W : World} {base : Nat} {v u : Value} {L M : List Nd} (h : Two w base v u L M W) (o : Obj) : Two w base v u L M (W.alloc o) :=
 ⟨h.one.alloc o, h.two.alloc o, h.apart, by have := h.low; simp; omega, h.below.alloc h.low o⟩
theorem Two.step {w W W' : World} {base : Nat} {v u : Value} {L M : List Nd} (h : Two w base v u L M W) (b : Below W.heap.size W W') : Two w base v u L M W' :=
 ⟨h.one.stays b, h.two.stays b, h.apart, Nat.le_trans h.low b.size, h.below.trans (b.mono h.low)⟩
def SP (l : List Nd) (t : Tr) (G B : List Nd) (p : Nat) : Prop := SS l t B p ∧ Like G B ∧ Bar B ∧ looseB G = true
theorem SP.start {l : List Nd} (hl : looseB l = true) {p : Nat} (hp : p < l.length) (hne : den l (p + 1) ≠ .e) : SP l (shrT (den l (p + 1))) l (bareL l) p := by
 have hlk := like_bare hl
 have hs := SS.start (l := bareL l) (bare_dens hl).2 (p := p) (by rw [bare_len]; exact hp) (by rw [← like_den hlk]; exact hne)
 rw [← like_den hlk] at hs
 refine ⟨?_, hlk, bare_bar hl, hl⟩
 obtain ⟨h1, h2, h3, h4, h5⟩ := hs
 exact ⟨h1, h2, h3, h4, by rw [bare_len] at h5 ⊢; exact h5⟩
theorem SP.next {l G B : List Nd} {t : Tr} {p : Nat} (h : SP l t G B p) (hh : holT (den B (p + 1)) = true) : SP l t (G ++ [innN B (at_ B p)]) (B ++ [innN B (at_ B p)]) B.length := by
 obtain ⟨h1, h2, h3, h4⟩ := h
 obtain ⟨a1, a2, a3, a4, a5⟩ := id h1
 obtain ⟨hv, hne⟩ := hol_lv a1 a2 hh
 have hf := (inn_step a1 a2 hv hne).1
 exact ⟨h1.next hh, like_snoc h2 _, bar_snoc h3 a1 a2 hv hf, loose_snoc h4 (like_fit h2 hf)⟩
end Go.Proofs.YtmfncapgikobkaaGreat

namespace Go.Proofs.YtmfncapgikobkaaGreat
set_option maxRecDepth 100000
set_option linter.unusedVariables false
set_option linter.unusedSimpArgs false
open Go.RowKit Nds Go.Maps
theorem Tryz.zeroI (w : World) : (zeroValue 3).run Tryz.prog w = .ok (.int .i64 0) w := by kernel_rfl
def KM (w : World) (b : Nat) (out : List Nd) : Prop :=
 ∃ es clock, w.heap[b]? = some (.map es clock) ∧ (∀ e ∈ es.toList, ∃ i, i < out.length ∧ e.key = ndv (at_ out i) ∧ e.val = .int .i64 ((i : Int) + 1)) ∧ ∀ i, i < out.length → ∃ e ∈ es.toList, e.key = ndv (at_ out i)
theorem KM.lt {w : World} {b : Nat} {out : List Nd} (h : KM w b out) : b < w.heap.size := by
 obtain ⟨es, clock, hb, _⟩ := h
 exact (Array.getElem?_eq_some_iff.1 hb).1
theorem KM.stay {w w' : World} {b : Nat} {out : List Nd} (h : KM w b out) (hb : w'.heap[b]? = w.heap[b]?) : KM w' b out := by
 obtain ⟨es, clock, hh, r⟩ := h
 exact ⟨es, clock, hb.trans hh, r⟩
theorem KM.made (w : World) : KM (w.alloc (.map #[] 0)) w.heap.size [] :=
 ⟨#[], 0, heap_alloc_new w _, by simp, fun i hi => absurd hi (Nat.not_lt_zero i)⟩
theorem KM.keys {out : List Nd} {es : Array MapEntry} (hS : ∀ y ∈ out, y.wf) (h : ∀ e ∈ es.toList, ∃ i, i < out.length ∧ e.key = ndv (at_ out i) ∧ e.val = .int .i64 ((i : Int) + 1)) : ∀ e ∈ es.toList, ∃ l, keyOf Tryz.prog 56 e.key = some l := by
 intro e he
 obtain ⟨i, hi, hk, _⟩ := h e he
 rw [hk]
 exact key_node _ (hS _ (at_mem hi))
theorem KM.lookK {w : World} {b : Nat} {out : List Nd} (h : KM w b out) (hg : GoodL out) (hS : ∀ y ∈ out, y.wf) (x : Nd) (hx : x.wf) :
  (Instr.lookup 94 (.map (some b)) (ndv x) false).run Tryz.prog w = .ok (.int .i64 ((fnd out x : Nat) : Int)) w := by
 obtain ⟨es, clock, hb, h1, h2⟩ := h
 obtain ⟨kl, hkey⟩ := key_node x hx
 rcases Tryz.nodeLaw.find w hkey es.toList (KM.keys hS h1) with ⟨f1, f2⟩ | ⟨j, e0, f1, f2, f3⟩
 ·
  have hn : fnd out x = 0 := fnd_none fun i hi e => by
   obtain ⟨e0, he, hk⟩ := h2 i hi
   rw [e] at hk
   exact f2 e0 he hk
  rw [hn]
  simp [Instr.lookup, run_underlying Tryz.underlying94, MapKept.run_getObj_map hb, Tryz.nodeLaw.check w _ hkey, f1, Tryz.zeroI, Result.andThen]
 ·
  obtain ⟨i, hi, hk, hv⟩ := h1 e0 (List.mem_of_getElem? f2)
  rw [f3] at hk
  have e := ndv_inj hk
  rw [e, good_fnd hg hi]
  rw [e] at hkey f1
  simp [Instr.lookup, run_underlying Tryz.underlying94, MapKept.run_getObj_map hb, Tryz.nodeLaw.check w _ hkey, f1, hv, Result.andThen]
theorem KM.putK {w : World} {b : Nat} {out : List Nd} (h : KM w b out) (hS : ∀ y ∈ out, y.wf) (x : Nd) (hx : x.wf) (hf : fnd out x = 0) :
  ∃ w', (Instr.mapUpdate 94 (.map (some b)) (ndv x) (.int .i64 ((out.length : Int) + 1))).run Tryz.prog w = .ok () w' ∧ KM w' b (out ++ [x]) ∧ w.grownBy w' (some b) := by
 obtain ⟨es, clock, hb, h1, h2⟩ := h
 obtain ⟨kl, hkey⟩ := key_node x hx
 have hno : ∀ j, j < out.length → at_ out j ≠ x := by
  rcases fnd_cases out x with ⟨_, h⟩ | ⟨i, _, _, h⟩
  ·
   exact h
  ·
   omega
 rcases Tryz.nodeLaw.find w hkey es.toList (KM.keys hS h1) with ⟨f1, f2⟩ | ⟨j, e0, f1, f2, f3⟩
 ·
  refine ⟨ChangeMaps.setBlock w b (.map (es.push ⟨ndv x, .int .i64 ((out.length : Int) + 1), clock⟩) (clock + 1)), ?_, ⟨_, _, ChangeMaps.heap_setBlock_same hb _, ?_, ?_⟩, ⟨rfl, rfl, rfl, by simp [ChangeMaps.setBlock], fun i _ hi => ChangeMaps.heap_setBlock_other hb _ (fun e => hi (by rw [e]))⟩⟩
  ·
   simp [Instr.mapUpdate, run_underlying Tryz.underlying94, MapKept.run_getObj_map hb, Tryz.nodeLaw.check w false hkey, f1, MapKept.run_setObj_map _ hb, Result.andThen, ChangeMaps.setBlock]
  ·
   intro e he
   simp only [Array.toList_push, List.mem_append, List.mem_singleton] at he
   rcases he with he | rfl
   ·
    obtain ⟨i, hi, hk, hv⟩ := h1 e he
    exact ⟨i, by simp; omega, by rw [at_app hi]; exact hk, hv⟩
   ·
    exact ⟨out.length, by simp, by rw [at_last], rfl⟩
  ·
   intro i hi
   simp only [List.length_append, List.length_cons, List.length_nil] at hi
   simp only [Array.toList_push, List.mem_append, List.mem_singleton]
   rcases Nat.lt_or_ge i out.length with h3 | h3
   ·
    obtain ⟨e, he, hk⟩ := h2 i h3
    exact ⟨e, .inl he, by rw [at_app h3]; exact hk⟩
   ·
    exact ⟨_, .inr rfl, by rw [show i = out.length by omega, at_last]⟩
 ·
  obtain ⟨i, hi, hk, _⟩ := h1 e0 (List.mem_of_getElem? f2)
  rw [f3] at hk
  exact absurd (ndv_inj hk).symm (hno i hi)
end Go.Proofs.YtmfncapgikobkaaGreat

namespace Go.Proofs.YtmfncapgikobkaaGreat
set_option maxRecDepth 100000
set_option linter.unusedVariables false
set_option linter.unusedSimpArgs false
open Go.RowKit Nds Go.Maps
def MM (l : List Nd) (w : World) (b : Nat) (out : List Nd) : Prop :=
 ∃ es clock, w.heap[b]? = some (.map es clock) ∧ (∀ e ∈ es.toList, ∃ (n : Nat) (k : Int), n ≤ l.length ∧ e.key = .int .i64 (n : Int) ∧ e.val = .int .i64 k ∧ NumT out (den l n) k) ∧ ∃ e ∈ es.toList, e.key = .int .i64 0
theorem MM.lt {l : List Nd} {w : World} {b : Nat} {out : List Nd} (h : MM l w b out) : b < w.heap.size := by
 obtain ⟨es, clock, hb, _⟩ := h
 exact (Array.getElem?_eq_some_iff.1 hb).1
theorem MM.stay {l : List Nd} {w w' : World} {b : Nat} {out : List Nd} (h : MM l w b out) (hb : w'.heap[b]? = w.heap[b]?) : MM l w' b out := by
 obtain ⟨es, clock, hh, r⟩ := h
 exact ⟨es, clock, hb.trans hh, r⟩
theorem MM.pre {l : List Nd} {w : World} {b : Nat} {out out' : List Nd} (h : MM l w b out) (hp : out <+: out') : MM l w b out' := by
 obtain ⟨es, clock, hh, h1, h2⟩ := h
 refine ⟨es, clock, hh, fun e he => ?_, h2⟩
 obtain ⟨n, k, a1, a2, a3, a4⟩ := h1 e he
 exact ⟨n, k, a1, a2, a3, num_pre hp a4⟩
end Go.Proofs.YtmfncapgikobkaaGreat
