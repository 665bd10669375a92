/-
  canon: the reference's Of.
  cells: the order in which one meets cells who goes through the quarters of a node; plain.
  a range over slices.Backward whose invariants may count draws; limb.trim and limb.Cmp, which draw no less.
  limb.Cmp and big.Cmp, which draw no less; a cell ahead of another one (cells.byPlace).
  cells.byPlace: by rows, then by columns; it turns nothing and takes no draw back.
  cells.at, parting, quarter, byQuarter.
  cells.byQuarter, cells.quarter.
  cells.quarter: in which quarter a cell is.
  slices.SortFunc over cells.
-/
import Derived.Test.YtlnmcilcifbcnaaGNcRV
import Derived.Test.YtlnmcilcifbcnaaGRound
import Derived.Test.YtlnmcilcifbcnaaGNdsW
import Derived.Test.YtlnmcilcifbcnaaGClM
import Derived.Test.YtlnmcilcifbcnaaGLen32
import Derived.Test.YtlnmcilcifbcnaaRows
import Derived.Lib.Strings
import Derived.Lib.Slices
import Derived.Lib.Small
import Derived.Lib.Walk
import Derived.Lib.BitFns
import Derived.Deep.RegionWith
import Derived.Deep.RegionHeld3
import Derived.Test.YtlnmcilcifbcnaaLay0

set_option linter.unusedVariables false
set_option linter.unusedSimpArgs false
set_option maxRecDepth 100000
namespace Go.Proofs.Ytlnmcilcifbcnaa
open Go.RowKit Nds
theorem one_cell {w : World} {g : Nat} {u : Value} {t : TypeId} (h : w.heap[g]? = some (.cells #[u] t)) : w.cell? ⟨g, 0, none⟩ = some u := by
 rw [cell_of_row w g _ _ _ _ h]
 rfl
theorem one_free {w : World} {g : Nat} {u : Value} {t : TypeId} (h : w.heap[g]? = some (.cells #[u] t)) : w.frozen? ⟨g, 0, none⟩ = false := frozen_of_row w g 0 _ _ h
set_option maxHeartbeats 3200000 in
theorem rof_no (A : Option Addr) (c n : Nat) (l : List Nd) (k : Int) (w : World) (h : Ns w A c l) (hn : l.length = n) (hno : looseB l = false ∨ k < 0 ∨ (n : Int) < k) :
  Calls Try.prog 21 #[.slice A n c, .int .i64 k] w (RetO l k w) := by
 have hcap := h.cap
 rw [hn] at hcap
 have hR := ofQ_no (okB_no (by rw [hn]; exact hno))
 obtain ⟨R, hRR⟩ : ∃ R, R = RetO l k w := ⟨_, rfl⟩
 rw [← hRR]
 have HR := Lib.hid hRR
 have HQ := Lib.hid hR
 have hb := (Below.refl w.heap.size w).alloc (Nat.le_refl _) (.cells #[.slice none 0 0] 31)
 have HB := Lib.hid hb
 have HN := Lib.hid (h.below hb)
 have HL := Lib.hid hn
 have hgc : (w.alloc (.cells #[.slice none 0 0] 31)).heap[w.heap.size]? = some (.cells #[.slice none 0 0] 31) := heap_alloc_new w _
 have HGC := Lib.hid hgc
 have hlt : w.heap.size < (w.alloc (.cells #[.slice none 0 0] 31)).heap.size := by simp
 have HLT := Lib.hid hlt
 have hcases : looseB l = false ∨ (looseB l = true ∧ k < 0) ∨ (looseB l = true ∧ 0 ≤ k ∧ (n : Int) < k) := by
  cases hq : looseB l
  ·
   exact .inl rfl
  ·
   rcases hno with h | h
   ·
    rw [hq] at h; cases h
   ·
    rcases h with h | h
    ·
     exact .inr (.inl ⟨rfl, h⟩)
    ·
     by_cases h0 : k < 0
     ·
      exact .inr (.inl ⟨rfl, h0⟩)
     ·
      exact .inr (.inr ⟨rfl, by omega, h⟩)
 clear h hn hno hb hgc hlt hR hRR
 rcases hcases with hq | ⟨hq, h0⟩ | ⟨hq, h0, h1⟩
 all_goals
  have HLL := Lib.hid hq
  clear hq
  go_enter Try.func21, Try.ntmps21
  go_wp2_with (go_at_call 55; go_loud (refine (rloose_b _ _ n l _ HN.out HL.out).mono ?_; rintro e w1 ⟨rfl, b1⟩; have HB1 := Lib.hid b1; have hcg := (b1.block w.heap.size HLT.out).trans HGC.out; have cg := one_cell hcg; have fg := one_free hcg; clear b1 hcg; rw [HLL.out]))
  have e1 := World.cell?_setCell_same _ _ (.slice none 0 0) cg
  refine bodyPost_ret (v := .tuple #[.agg #[.slice none 0 0], .int .i64 1]) (by simp [results, Try.results21, go_sem, e1]) rfl ?_
  rw [HR.out]
  refine ⟨none, 0, ?_, ?_, fun _ => rfl, (HB.out.trans (HB1.out.mono HB.out.size)).setCell (Nat.le_refl _) _⟩
  ·
   rw [HQ.out.1, HQ.out.2]
   rfl
  ·
   rw [HQ.out.1]
   exact ns_nil _
theorem noper_make_full {P : Program} {w : World} {o : Oper} {a : Act} {K : Act → World → Prop} {Q : Exit → Act → World → Prop}
  (l c : Operand) (t : TypeId) (hop : o.op = Op.makeSlice t l c)
  (base : Nat) (e : TypeId) (i : TypeInfo) (z : Value) (size : Nat) (h1 : P.underlying t = some (.slice e)) (h2 : P.info? e = some i) (h3 : i.zero = some z) (h4 : i.size = size)
  (kl kc : IntKind) (L C : Int) (n : Nat) (hl : a.eval l = .int kl L) (hc : a.eval c = .int kc C) (hL : L = (n : Int)) (hC : C = (n : Int)) (b2 : i.bytes * n ≤ 281474976710656) (b3 : n ≤ maxLen) (b4 : base ≤ w.heap.size)
  (hK : ∀ w', w'.ownsRow base e size (.slice (some ⟨w.heap.size, 0, none⟩) n n) n (madeCells z.cells (n * size)).toList → w.grownBy w' none → K (a.put o.dst (.slice (some ⟨w.heap.size, 0, none⟩) n n)) w') :
  Oper.wp P o a w K Q := by
 obtain ⟨w', hrun, r1, r2⟩ := run_make_full (P := P) w base t e i z size h1 h2 h3 h4 kl kc n b2 b3 b4
 subst hL
 subst hC
 unfold Oper.wp
 simp [execOp, hop, hl, hc, hrun, Result.andThen]
 exact hK w' r1 r2
theorem dn_nil (l : List Nd) (n : Nat) : Dn l [] (List.replicate n 0) := by
 intro i hi h0
 exfalso
 rw [List.getD_eq_getElem?_getD, List.getElem?_replicate] at h0
 split at h0 <;> simp at h0
set_option maxHeartbeats 3200000 in
theorem rof_yes (A : Option Addr) (c n k : Nat) (l : List Nd) (w : World) (h : Ns w A c l) (hn : l.length = n) (hn9 : n ≤ 900000) (hl : looseB l = true) (hk : k ≤ n) (hA : A = none → c = 0) :
  Calls Try.prog 21 #[.slice A n c, .int .i64 (k : Int)] w (RetO l (k : Int) w) := by
 have hcap := h.cap
 rw [hn] at hcap
 have HQ := Lib.hid (ofQ_yes hl (n := k) (by omega))
 obtain ⟨i0, hi, hz0, hz1, hz2⟩ := info_parts Try.infoI
 have HI := Lib.hid (And.intro hi (And.intro hz0 (And.intro hz1 hz2)))
 obtain ⟨R, hRR⟩ : ∃ R, R = RetO l (k : Int) w := ⟨_, rfl⟩
 rw [← hRR]
 have HR := Lib.hid hRR
 have hb := (Below.refl w.heap.size w).alloc (Nat.le_refl _) (.cells #[.slice none 0 0] 31)
 have HB := Lib.hid hb
 have HN := Lib.hid (h.below hb)
 have HL := Lib.hid hn
 have HLL := Lib.hid hl
 have HA := Lib.hid hA
 have hgc : (w.alloc (.cells #[.slice none 0 0] 31)).heap[w.heap.size]? = some (.cells #[.slice none 0 0] 31) := heap_alloc_new w _
 have HGC := Lib.hid hgc
 have hlt : w.heap.size < (w.alloc (.cells #[.slice none 0 0] 31)).heap.size := by simp
 have HLT := Lib.hid hlt
 have t0 : decide ((k : Int) < 0) = false := decide_eq_false (by omega)
 have t1 : decide ((n : Int) < (k : Int)) = false := decide_eq_false (by omega)
 clear h hn hb hgc hlt hRR hi hz0 hz1 hz2 hA hl
 go_enter Try.func21, Try.ntmps21
 go_wp2_with (first
  | (go_at_call 55; go_loud (refine (rloose_b _ _ n l _ HN.out HL.out).mono ?_; rintro e w1 ⟨rfl, b1⟩; have HB1 := Lib.hid b1; have HN1 := Lib.hid (HN.out.below b1); clear b1; rw [HLL.out]))
  | (go_at_call 56; go_loud (refine (rshrink_any _ _ n l k _ HN1.out HL.out HLL.out hn9 HA.out hk).mono ?_; rintro e w3 ⟨v2, cur, j, rfl, s1, s2, s3, s4, s5, s6⟩; obtain ⟨A2, c2, hv2, hn2, _, hA2⟩ := s1.shape; have HV2 := Lib.hid hv2; have HN2' := Lib.hid hn2; have HO2 := Lib.hid s1; have HCL := Lib.hid s2; have HJ := Lib.hid s3; have HJD := Lib.hid s4; have HCN' := Lib.hid s5; have HB3 := Lib.hid s6; clear hv2 hn2 hA2 s1 s2 s3 s4 s5 s6)))
 have hv2 := HV2.out
 obtain ⟨cn, hcn⟩ : ∃ cn, cn = cur.length := ⟨_, rfl⟩
 rw [← hcn] at hv2
 subst hv2
 have HCN := Lib.hid hcn
 have hcn9 : cn ≤ 901329 := by have := HCN'.out; have := HL.out; omega
 have hc2 := HN2'.out.cap
 rw [← hcn] at hc2
 have HBW3 := Lib.hid (HB.out.trans ((HB1.out.trans (HB3.out.mono HB1.out.size)).mono HB.out.size))
 have HGQ3 := Lib.hid ((HB3.out.block w.heap.size (Nat.lt_of_lt_of_le HLT.out HB1.out.size)).trans ((HB1.out.block w.heap.size HLT.out).trans HGC.out))
 clear hcn
 refine wp_region_noPanic ?_
 refine wp_region_held (S := fun _ => True) (by kernel_rfl) ?_
 obtain ⟨W0, hW0⟩ : ∃ W0 : World, W0 = w3.drew := ⟨_, rfl⟩
 have HN2 := Lib.hid (show Ns W0 A2 c2 cur by rw [hW0]; exact HN2'.out.drew)
 have HBW := Lib.hid (show Below w.heap.size w W0 by rw [hW0]; exact Below.drew HBW3.out)
 have HGQ := Lib.hid (show W0.heap[w.heap.size]? = some (.cells #[.slice none 0 0] 31) by rw [hW0]; exact HGQ3.out)
 have HLQ := Lib.hid (show w.heap.size < W0.heap.size from (Array.getElem?_eq_some_iff.1 HGQ.out).1)
 have HA2 := Lib.hid (show ∀ a, A2 = some a → a.block < W0.heap.size from fun a ea => by rw [hW0]; exact (HO2.out.lt a.block (by rw [ea]; rfl)).2)
 have HLV := Lib.hid (show 0 < j → (at_ cur (j - 1)).lv ≤ ((1329 : Nat) : Int) from fun h0 => (fit_lv (loose_fit HCL.out (by have := HJ.out; omega))).2)
 have B0 := Lib.hid (Below.refl W0.heap.size W0)
 have e0 : IntKind.i64.wrap ((cn : Int) + 1) = (cn : Int) + 1 := IntWalk.i64_in _ (by omega)
 change wpAnyH _ _ _ _ _ _ _ _ w3.drew
 rw [← hW0]
 clear hW0
 refine wpAnyH_take (i := 0) (v := ?_) rfl (by kernel_rfl) (by kernel_rfl) (by kernel_rfl) (fun _ _ _ h => h) (Or.inl ⟨by rfl, ?_⟩) trivial ?_
 rotate_left
 ·
  rintro w' _
  go_simp
  first | done | with_reducible rfl | rfl
 simp only [Act.put, LA]
 refine wpAnyH_take (i := 1) (v := ?_) rfl (by kernel_rfl) (by kernel_rfl) (by kernel_rfl) (fun _ _ _ h => h) (Or.inl ⟨by rfl, ?_⟩) trivial ?_
 rotate_left
 ·
  rintro w' _
  go_simp
  first | done | with_reducible rfl | rfl
 simp only [Act.put, LA]
 refine wpAnyH_take (i := 3) (v := ?_) rfl (by kernel_rfl) (by kernel_rfl) (by kernel_rfl) (fun _ _ _ h => h) (Or.inl ⟨by rfl, ?_⟩) trivial ?_
 rotate_left
 ·
  rintro w' _
  go_simp
  first | done | with_reducible rfl | rfl
 simp only [Act.put, LA]
 refine wpAnyH_take (i := 4) (v := ?_) rfl (by kernel_rfl) (by kernel_rfl) (by kernel_rfl) (fun _ _ _ h => h) (Or.inl ⟨by rfl, ?_⟩) trivial ?_
 rotate_left
 ·
  rintro w' _
  go_simp
  first | done | with_reducible rfl | rfl
 simp only [Act.put, LA]
 refine wpAnyH_take (i := 5) (v := ?_) rfl (by kernel_rfl) (by kernel_rfl) (by kernel_rfl) (fun _ _ _ h => h) (Or.inl ⟨by rfl, ?_⟩) trivial ?_
 rotate_left
 ·
  rintro w' _
  go_simp
  first | done | with_reducible rfl | rfl
 simp only [Act.put, LA]
 refine wpAnyH_take (i := 6) (v := ?_) rfl (by kernel_rfl) (by kernel_rfl) (by kernel_rfl) (fun _ _ _ h => h) (Or.inl ⟨by rfl, ?_⟩) trivial ?_
 rotate_left
 ·
  rintro w' _
  go_simp
  first | done | with_reducible rfl | rfl
 simp only [Act.put, LA]
 refine wpAnyH_ready (rs := [2, 7]) (by kernel_rfl) (by simp) (AllReadyH.cons rfl (fun K hK => ?_) (AllReadyH.cons rfl (fun K hK => ?_) AllReadyH.nil))
 ·
  go_simp
  refine (empties_any A2 c2 cn cur _ (HN2.out.below B0.out) HCN.out.symm HCL.out (by omega)).mono ?_
  rintro e W4 ⟨E, rfl, x1, x2, x3, x4⟩
  dsimp only
  have B4 := Lib.hid (B0.out.trans (x4.mono B0.out.size))
  have HE1 := Lib.hid x1
  have HE3 := Lib.hid x3
  have HE4 := Lib.hid x4
  have HE2 := Lib.hid x2
  refine hK.out _ _ trivial (fun _ => ?_)
  clear hK K x1 x2 x3 x4
  refine wpAnyH_ready (rs := [7]) (by kernel_rfl) (by simp) (AllReadyH.cons rfl (fun K hK => ?_) AllReadyH.nil)
  rw [if_pos (by rfl)]
  refine noper_make_full (.tmp 38) (.tmp 38) 83 rfl W0.heap.size 3 i0 _ 1 Try.underlying83 HI.out.1 HI.out.2.1 HI.out.2.2.1 .i64 .i64 _ _ (cn + 1) rfl rfl (by omega) (by omega) (by rw [HI.out.2.2.2]; omega) (by unfold maxLen; omega) B4.out.size ?_
  intro W5 own grow
  simp only [Act.put, LA]
  have B5 := Lib.hid (B4.out.grown grow B4.out.size (fun k hk => by cases hk))
  have OD := Lib.hid (OwnD.made own)
  have GR := Lib.hid grow
  refine hK.out _ _ trivial (fun _ => ?_)
  clear hK K own grow
  have HEG := Lib.hid (show E ≠ W4.heap.size by have := HE2.out; omega)
  have HGB := Lib.hid (show W0.heap.size ≤ W4.heap.size from B4.out.size)
  have HEC := Lib.hid (show ∀ i, i ≤ cn → W5.cell? ⟨E, i, none⟩ = some (.bool (empB cur i)) from fun i hi => (World.cell?_of_block (w := W4) (GR.out.block E HE2.out (by simp))).trans (HE3.out i hi))
  have HNV := Lib.hid (HN2.out.below B5.out)
  have hsz := B5.out.size
  refine wpAnyH_ready (rs := [8]) (by kernel_rfl) (by simp) (AllReadyH.cons rfl (fun K hK => ?_) AllReadyH.nil)
  go_simp
  refine (rvisit_rec A2 c2 cn E W0.heap.size _ cur HCL.out HCN.out.symm (by omega) HA2.out HEG.out HGB.out 1329 j [] (List.replicate (cn + 1) 0) (.slice none 0 0) _ (by rw [HCN.out]; exact HJ.out) HLV.out (inv_nil _) (dn_nil _ _) HNV.out HEC.out (ownN_none _ _) OD.out (by simp [Value.ownBlock]) (by simp [Value.ownBlock]) hsz).mono ?_
  rintro e W7 ⟨v7, ds7, rfl, z1, z2, z3, z4, z5, z6⟩
  dsimp only
  obtain ⟨A7, c7, hv7, hn7, hA7, hA7b⟩ := z1.shape
  have hA7bb := Lib.hid hA7b
  clear hA7b
  obtain ⟨qn, hqn⟩ : ∃ qn, qn = (enc (den cur j) []).1.length := ⟨_, rfl⟩
  rw [← hqn] at hv7
  subst hv7
  have HQN := Lib.hid hqn
  have B7 := Lib.hid (B5.out.trans (z6.to hsz (fun k hk => by
   rcases hk with h | h
   ·
    subst h; exact HGB.out
   ·
    simp [Value.ownBlock] at h)))
  have HN7 := Lib.hid hn7
  have HA7 := Lib.hid hA7
  refine hK.out _ _ trivial (fun _ => ?_)
  clear hK K z1 z2 z3 z4 z5 z6 hn7 hA7 hqn
  refine wpAnyH_take (i := 9) (v := ?_) rfl (by kernel_rfl) (by kernel_rfl) (by kernel_rfl) (fun _ _ _ h => h) (Or.inl ⟨by rfl, ?_⟩) trivial ?_
  rotate_left
  ·
   rintro w' _
   go_simp
   first | done | with_reducible rfl | rfl
  simp only [Act.put, LA]
  refine wpAnyH_take (i := 10) (v := ?_) rfl (by kernel_rfl) (by kernel_rfl) (by kernel_rfl) (fun _ _ _ h => h) (Or.inl ⟨by rfl, ?_⟩) trivial ?_
  rotate_left
  ·
   rintro w' _
   go_simp
   first | done | with_reducible rfl | rfl
  simp only [Act.put, LA]
  refine wpAnyH_take (i := 11) (v := ?_) rfl (by kernel_rfl) (by kernel_rfl) (by kernel_rfl) (fun _ _ _ h => h) (Or.inl ⟨by rfl, ?_⟩) trivial ?_
  rotate_left
  ·
   rintro w' _
   go_simp
   first | done | with_reducible rfl | rfl
  simp only [Act.put, LA]
  refine wpAnyH_take (i := 12) (v := ?_) rfl (by kernel_rfl) (by kernel_rfl) (by kernel_rfl) (fun _ _ _ h => h) (Or.inl ⟨by rfl, ?_⟩) trivial ?_
  rotate_left
  ·
   rintro w' _
   go_simp
   first | done | with_reducible rfl | rfl
  simp only [Act.put, LA]
  refine wpAnyH_take (i := 13) (v := ?_) rfl (by kernel_rfl) (by kernel_rfl) (by kernel_rfl) (fun _ _ _ h => h) (Or.inl ⟨by rfl, ?_⟩) trivial ?_
  rotate_left
  ·
   rintro w' _
   go_simp
   first | done | with_reducible rfl | rfl
  simp only [Act.put, LA]
  refine wpAnyH_take (i := 14) (v := ?_) rfl (by kernel_rfl) (by kernel_rfl) (by kernel_rfl) (fun _ _ _ h => h) (Or.inl ⟨by rfl, ?_⟩) trivial ?_
  rotate_left
  ·
   rintro w' _
   go_simp
   first | done | with_reducible rfl | rfl
  simp only [Act.put, LA]
  refine wpAnyH_take (i := 15) (v := ?_) rfl (by kernel_rfl) (by kernel_rfl) (by kernel_rfl) (fun _ _ _ h => h) (Or.inl ⟨by rfl, ?_⟩) trivial ?_
  rotate_left
  ·
   rintro w' _
   go_simp
   first | done | with_reducible rfl | rfl
  simp only [Act.put, LA]
  refine wpAnyH_done (by kernel_rfl) ?_ _
  refine NoPanic.normal ?_
  have hc7 := (B7.out.block _ HLQ.out).trans HGQ.out
  have cg := one_cell hc7
  have fg := one_free hc7
  clear hc7
  go_wp2_with fail
  have e1 := World.cell?_setCell_same _ _ (.slice A7 qn c7) cg
  refine bodyPost_ret (v := .tuple #[.agg #[.slice A7 qn c7], .int .i64 0]) (by simp [results, Try.results21, go_sem, e1]) rfl ?_
  rw [HR.out]
  have hq7 : (enc (den cur j) []).1 = ofQ l (k : Int) := by rw [HJD.out, HQ.out.1]; rfl
  have hqn := HQN.out
  rw [hq7] at hqn HN7
  have hA7b := hA7bb.out
  refine ⟨A7, c7, ?_, ?_, HA7.out, (HBW.out.trans (B7.out.mono HBW.out.size)).setCell (Nat.le_refl _) _⟩
  ·
   rw [HQ.out.2, hqn]
  ·
   exact HN7.out.gbr (gb_setCell _ _ _) (fun a ea e => by have h1 := hA7b a ea; have h2 := HLQ.out; have h3 : a.block = w.heap.size := Option.some.inj e; omega)
 ·
  rw [if_pos (by rfl)]
  refine noper_make_full (.tmp 38) (.tmp 38) 83 rfl W0.heap.size 3 i0 _ 1 Try.underlying83 HI.out.1 HI.out.2.1 HI.out.2.2.1 .i64 .i64 _ _ (cn + 1) rfl rfl (by omega) (by omega) (by rw [HI.out.2.2.2]; omega) (by unfold maxLen; omega) B0.out.size ?_
  intro W4 own grow
  simp only [Act.put, LA]
  have B4 := Lib.hid (B0.out.grown grow B0.out.size (fun k hk => by cases hk))
  have OD := Lib.hid (OwnD.made own)
  have GR := Lib.hid grow
  refine hK.out _ _ trivial (fun _ => ?_)
  clear hK K own grow
  refine wpAnyH_ready (rs := [2]) (by kernel_rfl) (by simp) (AllReadyH.cons rfl (fun K hK => ?_) AllReadyH.nil)
  go_simp
  refine (empties_any A2 c2 cn cur _ (HN2.out.below B4.out) HCN.out.symm HCL.out (by omega)).mono ?_
  rintro e W5 ⟨E, rfl, x1, x2, x3, x4⟩
  dsimp only
  have B5 := Lib.hid (B4.out.trans (x4.mono B4.out.size))
  have HE1 := Lib.hid x1
  have HE3 := Lib.hid x3
  have HE4 := Lib.hid x4
  have HE2 := Lib.hid x2
  refine hK.out _ _ trivial (fun _ => ?_)
  clear hK K x1 x2 x3 x4
  have HEG := Lib.hid (show E ≠ W0.heap.size by have := HE1.out; have := OD.out.lt.2; omega)
  have HGB := Lib.hid (Nat.le_refl W0.heap.size)
  have HEC := Lib.hid HE3.out
  have OD := Lib.hid (show OwnD W5 W0.heap.size W0.heap.size (cn + 1) (List.replicate (cn + 1) 0) from OD.out.gbr (row := none) ⟨HE4.out.os, HE4.out.tape, HE4.out.output, HE4.out.size, fun i hi _ => HE4.out.block i hi⟩ (by simp))
  have HNV := Lib.hid (HN2.out.below B5.out)
  have hsz := B5.out.size
  refine wpAnyH_ready (rs := [8]) (by kernel_rfl) (by simp) (AllReadyH.cons rfl (fun K hK => ?_) AllReadyH.nil)
  go_simp
  refine (rvisit_rec A2 c2 cn E W0.heap.size _ cur HCL.out HCN.out.symm (by omega) HA2.out HEG.out HGB.out 1329 j [] (List.replicate (cn + 1) 0) (.slice none 0 0) _ (by rw [HCN.out]; exact HJ.out) HLV.out (inv_nil _) (dn_nil _ _) HNV.out HEC.out (ownN_none _ _) OD.out (by simp [Value.ownBlock]) (by simp [Value.ownBlock]) hsz).mono ?_
  rintro e W7 ⟨v7, ds7, rfl, z1, z2, z3, z4, z5, z6⟩
  dsimp only
  obtain ⟨A7, c7, hv7, hn7, hA7, hA7b⟩ := z1.shape
  have hA7bb := Lib.hid hA7b
  clear hA7b
  obtain ⟨qn, hqn⟩ : ∃ qn, qn = (enc (den cur j) []).1.length := ⟨_, rfl⟩
  rw [← hqn] at hv7
  subst hv7
  have HQN := Lib.hid hqn
  have B7 := Lib.hid (B5.out.trans (z6.to hsz (fun k hk => by
   rcases hk with h | h
   ·
    subst h; exact HGB.out
   ·
    simp [Value.ownBlock] at h)))
  have HN7 := Lib.hid hn7
  have HA7 := Lib.hid hA7
  refine hK.out _ _ trivial (fun _ => ?_)
  clear hK K z1 z2 z3 z4 z5 z6 hn7 hA7 hqn
  refine wpAnyH_take (i := 9) (v := ?_) rfl (by kernel_rfl) (by kernel_rfl) (by kernel_rfl) (fun _ _ _ h => h) (Or.inl ⟨by rfl, ?_⟩) trivial ?_
  rotate_left
  ·
   rintro w' _
   go_simp
   first | done | with_reducible rfl | rfl
  simp only [Act.put, LA]
  refine wpAnyH_take (i := 10) (v := ?_) rfl (by kernel_rfl) (by kernel_rfl) (by kernel_rfl) (fun _ _ _ h => h) (Or.inl ⟨by rfl, ?_⟩) trivial ?_
  rotate_left
  ·
   rintro w' _
   go_simp
   first | done | with_reducible rfl | rfl
  simp only [Act.put, LA]
  refine wpAnyH_take (i := 11) (v := ?_) rfl (by kernel_rfl) (by kernel_rfl) (by kernel_rfl) (fun _ _ _ h => h) (Or.inl ⟨by rfl, ?_⟩) trivial ?_
  rotate_left
  ·
   rintro w' _
   go_simp
   first | done | with_reducible rfl | rfl
  simp only [Act.put, LA]
  refine wpAnyH_take (i := 12) (v := ?_) rfl (by kernel_rfl) (by kernel_rfl) (by kernel_rfl) (fun _ _ _ h => h) (Or.inl ⟨by rfl, ?_⟩) trivial ?_
  rotate_left
  ·
   rintro w' _
   go_simp
   first | done | with_reducible rfl | rfl
  simp only [Act.put, LA]
  refine wpAnyH_take (i := 13) (v := ?_) rfl (by kernel_rfl) (by kernel_rfl) (by kernel_rfl) (fun _ _ _ h => h) (Or.inl ⟨by rfl, ?_⟩) trivial ?_
  rotate_left
  ·
   rintro w' _
   go_simp
   first | done | with_reducible rfl | rfl
  simp only [Act.put, LA]
  refine wpAnyH_take (i := 14) (v := ?_) rfl (by kernel_rfl) (by kernel_rfl) (by kernel_rfl) (fun _ _ _ h => h) (Or.inl ⟨by rfl, ?_⟩) trivial ?_
  rotate_left
  ·
   rintro w' _
   go_simp
   first | done | with_reducible rfl | rfl
  simp only [Act.put, LA]
  refine wpAnyH_take (i := 15) (v := ?_) rfl (by kernel_rfl) (by kernel_rfl) (by kernel_rfl) (fun _ _ _ h => h) (Or.inl ⟨by rfl, ?_⟩) trivial ?_
  rotate_left
  ·
   rintro w' _
   go_simp
   first | done | with_reducible rfl | rfl
  simp only [Act.put, LA]
  refine wpAnyH_done (by kernel_rfl) ?_ _
  refine NoPanic.normal ?_
  have hc7 := (B7.out.block _ HLQ.out).trans HGQ.out
  have cg := one_cell hc7
  have fg := one_free hc7
  clear hc7
  go_wp2_with fail
  have e1 := World.cell?_setCell_same _ _ (.slice A7 qn c7) cg
  refine bodyPost_ret (v := .tuple #[.agg #[.slice A7 qn c7], .int .i64 0]) (by simp [results, Try.results21, go_sem, e1]) rfl ?_
  rw [HR.out]
  have hq7 : (enc (den cur j) []).1 = ofQ l (k : Int) := by rw [HJD.out, HQ.out.1]; rfl
  have hqn := HQN.out
  rw [hq7] at hqn HN7
  have hA7b := hA7bb.out
  refine ⟨A7, c7, ?_, ?_, HA7.out, (HBW.out.trans (B7.out.mono HBW.out.size)).setCell (Nat.le_refl _) _⟩
  ·
   rw [HQ.out.2, hqn]
  ·
   exact HN7.out.gbr (gb_setCell _ _ _) (fun a ea e => by have h1 := hA7b a ea; have h2 := HLQ.out; have h3 : a.block = w.heap.size := Option.some.inj e; omega)
theorem rof_any (A : Option Addr) (c n : Nat) (l : List Nd) (k : Int) (w : World) (h : Ns w A c l) (hn : l.length = n) (hn9 : n ≤ 900000) (hA : A = none → c = 0) :
  Calls Try.prog 21 #[.slice A n c, .int .i64 k] w (RetO l k w) := by
 cases hl : looseB l with
 | false => exact rof_no A c n l k w h hn (.inl hl)
 | true =>
  by_cases hk : 0 ≤ k ∧ k ≤ (n : Int)
  ·
   obtain ⟨j, rfl⟩ : ∃ j : Nat, k = j := ⟨k.toNat, by omega⟩
   exact rof_yes A c n j l w h hn hn9 hl (by omega) hA
  ·
   exact rof_no A c n l k w h hn (.inr (by omega))
end Go.Proofs.Ytlnmcilcifbcnaa

namespace Go.Proofs.Ytlnmcilcifbcnaa.Nds
open Num
def qtr (m x y : Nat) : Nat := x / 2 ^ m % 2 + 2 * (y / 2 ^ m % 2)
end Go.Proofs.Ytlnmcilcifbcnaa.Nds

namespace Go.Proofs.Ytlnmcilcifbcnaa
open Go.RowKit Go.Shelf Num
attribute [local go_sem] Oper.semAt_some
structure Gro (w w' : World) : Prop where
 b : Below w.heap.size w w'
 d : w.drawn ≤ w'.drawn
theorem Gro.refl (w : World) : Gro w w := ⟨Below.refl _ _, Nat.le_refl _⟩
theorem Gro.trans {a b c : World} (h : Gro a b) (k : Gro b c) : Gro a c := ⟨h.b.trans (k.b.mono h.b.size), Nat.le_trans h.d k.d⟩
theorem Gro.alloc {a w : World} (h : Gro a w) (o : Obj) : Gro a (w.alloc o) := h.trans ⟨(Below.refl _ w).alloc (Nat.le_refl _) o, Nat.le_refl _⟩
theorem Gro.drewN {a w : World} (h : Gro a w) (n : Nat) : Gro a (w.drewN n) := h.trans ⟨below_drewN (Below.refl _ _) n, Nat.le_add_right _ _⟩
structure Marks {β : Type} (B : Nat) (I : β → World → Prop) : Prop where
 lay : ∀ s W (o : Obj), I s W → o.isCells = false → I s (W.alloc o)
 put : ∀ s W l (o o' : Obj), I s W → B ≤ l → W.heap[l]? = some o → o.isCells = false → I s (W.putObj l o')
theorem Marks.and {β : Type} {B : Nat} {I I' : β → World → Prop} (h : Marks B I) (k : Marks B I') : Marks B (fun s W => I s W ∧ I' s W) :=
 ⟨fun s W o hs ho => ⟨h.lay s W o hs.1 ho, k.lay s W o hs.2 ho⟩, fun s W l o o' hs hB hl ho => ⟨h.put s W l o o' hs.1 hB hl ho, k.put s W l o o' hs.2 hB hl ho⟩⟩
theorem Gro.put {a W : World} (h : Gro a W) {l : Nat} {o : Obj} (o' : Obj) (hl : a.heap.size ≤ l) (ho : W.heap[l]? = some o) : Gro a (W.putObj l o') :=
 ⟨h.b.grown (grownBy_putObj' W l o') h.b.size (fun k e => by cases e; exact hl), h.d⟩
theorem Gro.setCell {a W : World} (h : Gro a W) {p : Addr} (hp : a.heap.size ≤ p.block) (u : Value) : Gro a (W.setCell p u) := ⟨h.b.setCell hp u, h.d⟩
end Go.Proofs.Ytlnmcilcifbcnaa

namespace Go.Proofs.Ytlnmcilcifbcnaa
open Go.RowKit Go.Shelf Num Nds
attribute [local go_sem] Oper.semAt_some
structure CmpStG (w W0 : World) (v : Value) (W : World) : Prop where
 size : W0.heap.size = w.heap.size + 2
 cell : W.cell? ⟨w.heap.size, 0, none⟩ = some v
 free : W.frozen? ⟨w.heap.size, 0, none⟩ = false
 cellR : W.cell? ⟨w.heap.size + 1, 0, none⟩ = some (.int .i64 0)
 freeR : W.frozen? ⟨w.heap.size + 1, 0, none⟩ = false
 b : Gro W0 W
 base : Gro w W0
theorem CmpStG.next {w W0 W W1 : World} {v : Value} (h : CmpStG w W0 v W) (hg : Gro W W1) : CmpStG w W0 v W1 :=
 have l0 := lt_of_cell h.cell
 have l1 := lt_of_cell h.cellR
 have hb := hg.b
 ⟨h.size, (hb.cell (p := ⟨w.heap.size, 0, none⟩) l0).trans h.cell, (hb.frozen (p := ⟨w.heap.size, 0, none⟩) l0).trans h.free, (hb.cell (p := ⟨w.heap.size + 1, 0, none⟩) l1).trans h.cellR, (hb.frozen (p := ⟨w.heap.size + 1, 0, none⟩) l1).trans h.freeR,
  h.b.trans hg, h.base⟩
end Go.Proofs.Ytlnmcilcifbcnaa

namespace Go.Proofs.Ytlnmcilcifbcnaa
open Go.RowKit Nds
def CvR (v : Cv) : Prop := CanonI v.sx v.xs ∧ CanonI v.sy v.ys ∧ v.xs.length ≤ 60000 ∧ v.ys.length ≤ 60000
end Go.Proofs.Ytlnmcilcifbcnaa

namespace Go.Proofs.Ytlnmcilcifbcnaa
open Go.RowKit Nds Num
structure TwoB (w : World) (B : Nat) (x y : Bool × Option Addr × Nat × List Nat) (W : World) : Prop where
 g : Gro w W
 lt : B + 1 < W.heap.size
 x0 : W.cell? ⟨B, 0, none⟩ = some (.bool x.1)
 x1 : W.cell? ⟨B, 1, none⟩ = some (.slice x.2.1 x.2.2.2.length x.2.2.1)
 y0 : W.cell? ⟨B + 1, 0, none⟩ = some (.bool y.1)
 y1 : W.cell? ⟨B + 1, 1, none⟩ = some (.slice y.2.1 y.2.2.2.length y.2.2.1)
 ux : Us W x.2.1 x.2.2.1 x.2.2.2
 uy : Us W y.2.1 y.2.2.1 y.2.2.2
theorem TwoB.next {w : World} {B : Nat} {x y : Bool × Option Addr × Nat × List Nat} {W W1 : World} (h : TwoB w B x y W) (k : Gro W W1) : TwoB w B x y W1 :=
 ⟨h.g.trans k, Nat.lt_of_lt_of_le h.lt k.b.size, (k.b.cell (p := ⟨B, 0, none⟩) (by have := h.lt; show B < _; omega)).trans h.x0, (k.b.cell (p := ⟨B, 1, none⟩) (by have := h.lt; show B < _; omega)).trans h.x1,
  (k.b.cell (p := ⟨B + 1, 0, none⟩) h.lt).trans h.y0, (k.b.cell (p := ⟨B + 1, 1, none⟩) h.lt).trans h.y1, h.ux.below k.b, h.uy.below k.b⟩
theorem TwoB.drew {w : World} {B : Nat} {x y : Bool × Option Addr × Nat × List Nat} {W : World} (h : TwoB w B x y W) : TwoB w B x y W.drew := h.next ((Gro.refl W).drewN 1)
end Go.Proofs.Ytlnmcilcifbcnaa

namespace Go.Proofs.Ytlnmcilcifbcnaa
open Go.RowKit Nds Num
structure CS (w : World) (B : Nat) (v u : Cv) (W : World) : Prop where
 g : Gro w W
 lt : B + 1 < W.heap.size
 bv : CvAt W B 0 v
 bu : CvAt W (B + 1) 0 u
 uv : CvU W v
 uu : CvU W u
theorem CS.next {w : World} {B : Nat} {v u : Cv} {W W1 : World} (h : CS w B v u W) (k : Gro W W1) : CS w B v u W1 :=
 ⟨h.g.trans k, Nat.lt_of_lt_of_le h.lt k.b.size, h.bv.below (k.b.block _ (by have := h.lt; omega)), h.bu.below (k.b.block _ h.lt), h.uv.below k.b, h.uu.below k.b⟩
theorem CS.new (w : World) (v u : Cv) (h : CvU w v) (k : CvU w u) (t : TypeId) : CS w w.heap.size v u ((w.alloc (.cells #[.bool v.sx, .slice v.ax v.xs.length v.cx, .bool v.sy, .slice v.ay v.ys.length v.cy, .int .u8 v.st] t)).alloc (.cells #[.bool u.sx, .slice u.ax u.xs.length u.cx, .bool u.sy, .slice u.ay u.ys.length u.cy, .int .u8 u.st] t)) := by
 have hg : Gro w ((w.alloc (.cells #[.bool v.sx, .slice v.ax v.xs.length v.cx, .bool v.sy, .slice v.ay v.ys.length v.cy, .int .u8 v.st] t)).alloc (.cells #[.bool u.sx, .slice u.ax u.xs.length u.cx, .bool u.sy, .slice u.ay u.ys.length u.cy, .int .u8 u.st] t)) := ((Gro.refl w).alloc _).alloc _
 refine ⟨hg, by simp, (CvAt.new w v _).below (Below.heap_alloc _ _ _ (by simp)), ?_, h.below hg.b, k.below hg.b⟩
 have h1 := CvAt.new (w.alloc (.cells #[.bool v.sx, .slice v.ax v.xs.length v.cx, .bool v.sy, .slice v.ay v.ys.length v.cy, .int .u8 v.st] t)) u t
 rwa [show (w.alloc (.cells #[.bool v.sx, .slice v.ax v.xs.length v.cx, .bool v.sy, .slice v.ay v.ys.length v.cy, .int .u8 v.st] t)).heap.size = w.heap.size + 1 by simp] at h1
end Go.Proofs.Ytlnmcilcifbcnaa

namespace Go.Proofs.Ytlnmcilcifbcnaa
open Go.RowKit Nds Num
structure C1 (w : World) (v : Cv) (W : World) : Prop where
 g : Gro w W
 lt : w.heap.size < W.heap.size
 bv : CvAt W w.heap.size 0 v
 uv : CvU W v
theorem C1.next {w : World} {v : Cv} {W W1 : World} (h : C1 w v W) (k : Gro W W1) : C1 w v W1 :=
 ⟨h.g.trans k, Nat.lt_of_lt_of_le h.lt k.b.size, h.bv.below (k.b.block _ h.lt), h.uv.below k.b⟩
end Go.Proofs.Ytlnmcilcifbcnaa

namespace Go.Proofs.Ytlnmcilcifbcnaa
open Go.RowKit Nds Num
def encC (v : Cv) : List Value := [.bool v.sx, .slice v.ax v.xs.length v.cx, .bool v.sy, .slice v.ay v.ys.length v.cy, .int .u8 v.st]
def Off (blk : Nat) (v : Cv) : Prop := (0 < v.xs.length → ∀ a, v.ax = some a → a.block ≠ blk) ∧ (0 < v.ys.length → ∀ a, v.ay = some a → a.block ≠ blk)
abbrev SC (w : World) (blk : Nat) (P : Cv → Prop) : Type := { v : Cv // CvU w v ∧ CvR v ∧ P v ∧ Off blk v }
theorem us_kept {w w' : World} {blk : Nat} {A : Option Addr} {c : Nat} {xs : List Nat} (h : Us w A c xs) (hk : ∀ k, k < w.heap.size → k ≠ blk → w'.heap[k]? = w.heap[k]?) (hs : w.heap.size ≤ w'.heap.size) (ha : 0 < xs.length → ∀ a, A = some a → a.block ≠ blk) : Us w' A c xs := by
 obtain ⟨h1, h2, h3, h4⟩ := h
 refine ⟨h1, h2, h3, fun hn => ?_⟩
 obtain ⟨b, off, e, hb, hc⟩ := h4 hn
 have hne : b ≠ blk := ha (by simpa using hn) _ e
 exact ⟨b, off, e, Nat.lt_of_lt_of_le hb hs, fun j u hu => (World.cell?_of_block (a := ⟨b, off + j, none⟩) (hk b hb hne)).trans (hc j u hu)⟩
theorem cvU_kept {w w' : World} {blk : Nat} {v : Cv} (h : CvU w v) (hk : ∀ k, k < w.heap.size → k ≠ blk → w'.heap[k]? = w.heap[k]?) (hs : w.heap.size ≤ w'.heap.size) (ho : Off blk v) : CvU w' v :=
 ⟨us_kept h.1 hk hs ho.1, us_kept h.2.1 hk hs ho.2, h.2.2⟩
theorem us_lt {w : World} {A : Option Addr} {c : Nat} {xs : List Nat} (h : Us w A c xs) (hx : 0 < xs.length) : ∀ a, A = some a → a.block < w.heap.size := fun a e => by
 obtain ⟨b, off, e', hb, _⟩ := h.at_ hx
 rw [e] at e'
 cases e'
 exact hb
theorem gbN {w w' : World} (h : Below w.heap.size w w') : w.grownBy w' none := ⟨h.os, h.tape, h.output, h.size, fun k hk _ => h.block k hk⟩
theorem encC_one (v : Cv) : ∀ x ∈ encC v, x.oneCell' = true := by
 intro x hx
 simp only [encC, List.mem_cons, List.not_mem_nil, or_false] at hx
 rcases hx with rfl | rfl | rfl | rfl | rfl <;> rfl
theorem cat_get {l : List Cv} {i : Nat} (h : i < l.length) : cat l i = l[i] := by
 unfold cat
 rw [List.getElem?_eq_getElem h]
 rfl
end Go.Proofs.Ytlnmcilcifbcnaa
