/-
  NodeOnes holds of every input: the walk.
-/
import Derived.Test.YtilhnnbmplnnpaaNdLevels
import Derived.Deep.DeepCutAuto

namespace Go.Proofs.Ytilhnnbmplnnpaa
set_option linter.unusedVariables false
set_option linter.unusedSimpArgs false
open Go.RowKit Nds
theorem lt_of_ncell {w : World} {p : Addr} {v : Value} (h : w.cell? p = some v) : p.block < w.heap.size := World.block_lt_of_cell? w p h
set_option maxRecDepth 100000 in
set_option maxHeartbeats 3200000 in
theorem nodeones_great (A : Option Addr) (c n : Nat) (m : Int) (w : World) (h : 60 < n) (hn : n ≤ 9223372036854775807) :
    Calls Try.prog 4 #[.slice A n c, .int .u8 m] w fun e w' => e = .returned (.bool true) ∧ Below w.heap.size w w' := by
  go_enter Try.func4, Try.ntmps4
  go_wp2_with (go_at_call 6; refine (alive5_any _).mono ?_; rintro e w1 ⟨rfl, b1⟩; have B1 := Lib.hid b1; clear b1)
  go_ret
  exact ⟨rfl, B1.out.alloc B1.out.size _⟩
set_option maxRecDepth 100000 in
set_option maxHeartbeats 3200000 in
theorem nodeones_not (A : Option Addr) (c n : Nat) (m : Int) (l : List Nd) (w : World) (h : Ns w A c l) (hn : l.length = n) (hn6 : n ≤ 60) (hq : quadB l = false) :
    Calls Try.prog 4 #[.slice A n c, .int .u8 m] w fun e w' => e = .returned (.bool true) ∧ Below w.heap.size w w' := by
  have HN := Lib.hid h
  have HL := Lib.hid hn
  have HQ := Lib.hid hq
  clear h hn hq
  go_enter Try.func4, Try.ntmps4
  go_wp2_with (first
    | (go_at_call 6; refine (alive5_any _).mono ?_; rintro e w1 ⟨rfl, b1⟩; have B1 := Lib.hid (b1.alloc b1.size (.cells #[.slice A n c] 27)); clear b1)
    | (go_at_call 9; go_loud (refine (nright_any _ _ n l _ (HN.out.below B1.out) HL.out (by omega)).mono ?_; rintro e w2 ⟨rfl, b2⟩; have B2 := Lib.hid b2; clear b2; rw [HQ.out])))
  go_ret
  exact ⟨rfl, B1.out.trans (B2.out.mono B1.out.size)⟩
set_option maxRecDepth 100000 in
set_option maxHeartbeats 3200000 in
theorem nodeones_none (A : Option Addr) (c : Nat) (m : Int) (w : World) (h : Ns w A c []) :
    Calls Try.prog 4 #[.slice A 0 c, .int .u8 m] w fun e w' => e = .returned (.bool true) ∧ Below w.heap.size w w' := by
  have HN := Lib.hid h
  have HQ := Lib.hid (show quadB [] = true from rfl)
  have HZ := Lib.hid (show levelZ [] = 0 from rfl)
  clear h
  go_enter Try.func4, Try.ntmps4
  go_wp2_with (first
    | (go_at_call 6; refine (alive5_any _).mono ?_; rintro e w1 ⟨rfl, b1⟩; have B1 := Lib.hid (b1.alloc b1.size (.cells #[.slice A 0 c] 27)); have C1 := Lib.hid (box_quad w1 A 0 c); clear b1)
    | (go_at_call 9; go_loud (refine (nright_any _ _ 0 [] _ (HN.out.below B1.out) rfl (by omega)).mono ?_; rintro e w2 ⟨rfl, b2⟩; have cq := (b2.cell (p := ⟨w1.heap.size, 0, none⟩) (by simp)).trans C1.out; have B2 := Lib.hid b2; clear b2; rw [HQ.out]))
    | (go_at_call 17; go_loud (refine (nlevel_any _ _ 0 [] _ ((HN.out.below B1.out).below B2.out) rfl).mono ?_; rintro e w3 ⟨rfl, b3⟩; have B3 := Lib.hid b3; clear b3; rw [HZ.out])))
  go_ret
  have z1 := B1.out.trans (B2.out.mono B1.out.size)
  exact ⟨rfl, z1.trans (B3.out.mono z1.size)⟩
set_option maxRecDepth 100000 in
set_option maxHeartbeats 6400000 in
theorem nodeones_main (A : Option Addr) (c n m k : Nat) (l : List Nd) (w : World) (h : Ns w A c l) (hn : l.length = n) (hn6 : n ≤ 60) (hq : quadB l = true) (h0 : 0 < n) (hm : m ≤ 255) (hk : m % n = k) :
    Calls Try.prog 4 #[.slice A n c, .int .u8 (m : Int)] w fun e w' => e = .returned (.bool true) ∧ Below w.heap.size w w' := by
  have HN := Lib.hid h
  have HL := Lib.hid hn
  have HQ := Lib.hid hq
  have HLL := Lib.hid (quad_loose hq)
  have hcap := h.cap
  rw [hn] at hcap
  have hkn : k < n := by rw [← hk]; exact Nat.mod_lt _ h0
  have ek : (m : Int) % (n : Int) = (k : Int) := by rw [← hk]; exact (Int.natCast_emod m n).symm
  obtain ⟨b, off, rfl, hb, hc⟩ := h.at_ (by omega)
  have HC := Lib.hid hc
  have t0 : ((n : Int) == 0) = false := beq_eq_false_iff_ne.2 (by omega)
  obtain ⟨x, hx⟩ : ∃ x, x = at_ l (n - 1) := ⟨_, rfl⟩
  have hcr := Lib.hid (hc (n - 1) (by omega))
  rw [← hx] at hcr
  have HX := Lib.hid hx
  have HK := Lib.hid hk
  clear h hn hq hc hx hk
  go_enter Try.func4, Try.ntmps4
  go_upto_region 10 with (first
    | (go_at_call 6; refine (alive5_any _).mono ?_; rintro e w1 ⟨rfl, b1⟩; have B1 := Lib.hid (b1.alloc b1.size (.cells #[.slice (some ⟨b, off, none⟩) n c] 27)); have C1 := Lib.hid (box_quad w1 (some ⟨b, off, none⟩) n c); clear b1)
    | (go_at_call 9; go_loud (refine (nright_any _ _ n l _ (HN.out.below B1.out) HL.out (by omega)).mono ?_; rintro e w2 ⟨rfl, b2⟩; have cq := (b2.cell (p := ⟨w1.heap.size, 0, none⟩) (by simp)).trans C1.out; have hb2 := B1.out.trans (b2.mono B1.out.size); obtain ⟨r1, r2, r3, r4, r5⟩ := hcr.out.below (hb2.block b hb); have B2 := Lib.hid b2; have HB2 := Lib.hid hb2; clear b2 hb2; rw [HQ.out])))
  rw [ek]
  obtain ⟨W, hW⟩ : ∃ W : World, W = w2.alloc (.cells #[.int .i64 x.lv, .int .i64 x.a, .int .i64 x.b, .int .i64 x.c, .int .i64 x.d] 35) := ⟨_, rfl⟩
  have hbW : Below w2.heap.size w2 W := by rw [hW]; exact (Below.refl _ _).alloc (Nat.le_refl _) _
  have HBW := Lib.hid (HB2.out.trans (hbW.mono HB2.out.size))
  have cq2 : W.cell? ⟨w1.heap.size, 0, none⟩ = some (.slice (some ⟨b, off, none⟩) n c) := by
    refine (hbW.cell (p := ⟨w1.heap.size, 0, none⟩) ?_).trans cq
    have := B2.out.size
    simp at this ⊢
    omega
  have cr2 : W.cell? ⟨w2.heap.size, 0, none⟩ = some (.int .i64 x.lv) := by
    rw [hW, cell_of_row _ _ _ _ _ _ (heap_alloc_new w2 (.cells #[.int .i64 x.lv, .int .i64 x.a, .int .i64 x.b, .int .i64 x.c, .int .i64 x.d] 35))]
    rfl
  have hq1 : w1.heap.size < W.heap.size := lt_of_ncell cq2
  have hr1 : w2.heap.size < W.heap.size := lt_of_ncell cr2
  rw [← hW]
  have CQ := Lib.hid cq2
  have CR := Lib.hid cr2
  clear hW hbW cq cq2 cr2 r1 r2 r3 r4 r5
  obtain ⟨gq, hgq⟩ : ∃ gq, gq = w1.heap.size := ⟨_, rfl⟩
  obtain ⟨gr, hgr⟩ : ∃ gr, gr = w2.heap.size := ⟨_, rfl⟩
  rw [← hgq] at CQ hq1 ⊢
  rw [← hgr] at CR hr1 ⊢
  clear hgq hgr
  have HNW := Lib.hid (HN.out.below HBW.out)
  have hbw : b < W.heap.size := Nat.lt_of_lt_of_le hb HBW.out.size
  have hkl : k < l.length := by rw [HL.out]; exact hkn
  have hck := (HC.out k hkl).below (HBW.out.block b hb)
  obtain ⟨y, hy⟩ : ∃ y, y = at_ l k := ⟨_, rfl⟩
  rw [← hy] at hck
  have HY := Lib.hid hy
  have hwy := Lib.hid (show y.wf by rw [hy]; exact HN.out.wf hkl)
  have HCK := Lib.hid hck
  have HKL := Lib.hid hkl
  obtain ⟨T, hT⟩ : ∃ T, T = l.take k ++ [y] ++ l.drop k := ⟨_, rfl⟩
  have HT := Lib.hid hT
  have htl : T.length = n + 1 := by
    rw [hT]
    simp
    have := HL.out
    omega
  have htq : quadB T = false := by
    rw [hT, hy]
    exact quad_twice hkl
  have HTL := Lib.hid htl
  have HTQ := Lib.hid htq
  clear hck hy hkl hT htl htq
  go_cut [8] (fun s8 wx => ∃ A8 c8, s8 = .slice A8 (n + 1) c8 ∧ Ns wx A8 c8 T ∧ Below W.heap.size W wx)
  case first =>
    have i0 : (0 : Int) ≤ (k : Int) := by omega
    have i1 : (k : Int) < (n : Int) := by omega
    have i2 : (k : Int) ≤ (n : Int) := by omega
    have i3 : (k : Int) ≤ (c : Int) := by omega
    have i4 : (n : Int) ≤ (c : Int) := by omega
    refine wp_region_noPanic ?_
    refine wp_region_held (S := fun w' => w'.cell? ⟨b, off + k * 5, none⟩ = some (.int .i64 y.lv) ∧ w'.cell? ⟨b, off + k * 5 + 1, none⟩ = some (.int .i64 y.a) ∧ w'.cell? ⟨b, off + k * 5 + 2, none⟩ = some (.int .i64 y.b) ∧ w'.cell? ⟨b, off + k * 5 + 3, none⟩ = some (.int .i64 y.c) ∧ w'.cell? ⟨b, off + k * 5 + 4, none⟩ = some (.int .i64 y.d)) (by kernel_rfl) ?_
    obtain ⟨W0, hW0⟩ : ∃ W0 : World, W0 = W.drew := ⟨_, rfl⟩
    have B0 := Lib.hid (show Below W.heap.size W W0 by rw [hW0]; exact Below.drew (Below.refl _ _))
    have hS0 : NdAt W0 b (off + k * 5) y := by rw [hW0]; exact HCK.out.drew
    change wpAnyH _ _ _ _ _ _ _ _ W.drew
    rw [← hW0]
    clear hW0
    refine wpAnyH_take (i := 1) (v := ?_) rfl (by kernel_rfl) (by kernel_rfl) (by kernel_rfl) (fun _ _ _ h => h) (Or.inl ⟨by rfl, ?_⟩) hS0 ?_
    rotate_left
    · rintro w' ⟨s1, s2, s3, s4, s5⟩
      go_simp
      first | done | with_reducible rfl | rfl
    simp only [Act.put, List.getElem_toArray, List.getElem_cons_succ, List.getElem_cons_zero, List.setIfInBounds_toArray, List.set_cons_zero, List.set_cons_succ]
    refine wpAnyH_take (i := 2) (v := ?_) rfl (by kernel_rfl) (by kernel_rfl) (by kernel_rfl) (fun _ _ _ h => h) (Or.inl ⟨by rfl, ?_⟩) hS0 ?_
    rotate_left
    · rintro w' ⟨s1, s2, s3, s4, s5⟩
      go_simp
      first | done | with_reducible rfl | rfl
    simp only [Act.put, List.getElem_toArray, List.getElem_cons_succ, List.getElem_cons_zero, List.setIfInBounds_toArray, List.set_cons_zero, List.set_cons_succ]
    refine wpAnyH_take (i := 3) (v := ?_) rfl (by kernel_rfl) (by kernel_rfl) (by kernel_rfl) (fun _ _ _ h => h) (Or.inl ⟨by rfl, ?_⟩) hS0 ?_
    rotate_left
    · rintro w' ⟨s1, s2, s3, s4, s5⟩
      go_simp
      first | done | with_reducible rfl | rfl
    simp only [Act.put, List.getElem_toArray, List.getElem_cons_succ, List.getElem_cons_zero, List.setIfInBounds_toArray, List.set_cons_zero, List.set_cons_succ]
    refine wpAnyH_take (i := 5) (v := ?_) rfl (by kernel_rfl) (by kernel_rfl) (by kernel_rfl) (fun _ _ _ h => h) (Or.inl ⟨by rfl, ?_⟩) hS0 ?_
    rotate_left
    · rintro w' ⟨s1, s2, s3, s4, s5⟩
      go_simp
      first | done | with_reducible rfl | rfl
    simp only [Act.put, List.getElem_toArray, List.getElem_cons_succ, List.getElem_cons_zero, List.setIfInBounds_toArray, List.set_cons_zero, List.set_cons_succ]
    refine wpAnyH_take (i := 6) (v := ?_) rfl (by kernel_rfl) (by kernel_rfl) (by kernel_rfl) (fun _ _ _ h => h) (Or.inl ⟨by rfl, ?_⟩) hS0 ?_
    rotate_left
    · rintro w' ⟨s1, s2, s3, s4, s5⟩
      go_simp
      first | done | with_reducible rfl | rfl
    simp only [Act.put, List.getElem_toArray, List.getElem_cons_succ, List.getElem_cons_zero, List.setIfInBounds_toArray, List.set_cons_zero, List.set_cons_succ]
    refine wpAnyH_take (i := 7) (v := ?_) rfl (by kernel_rfl) (by kernel_rfl) (by kernel_rfl) (fun _ _ _ h => h) (Or.inl ⟨by rfl, ?_⟩) hS0 ?_
    rotate_left
    · rintro w' ⟨s1, s2, s3, s4, s5⟩
      go_simp
      first | done | with_reducible rfl | rfl
    simp only [Act.put, List.getElem_toArray, List.getElem_cons_succ, List.getElem_cons_zero, List.setIfInBounds_toArray, List.set_cons_zero, List.set_cons_succ]
    refine wpAnyH_take (i := 8) (v := ?_) rfl (by kernel_rfl) (by kernel_rfl) (by kernel_rfl) (fun _ _ _ h => h) (Or.inl ⟨by rfl, ?_⟩) hS0 ?_
    rotate_left
    · rintro w' ⟨s1, s2, s3, s4, s5⟩
      go_simp
      first | done | with_reducible rfl | rfl
    simp only [Act.put, List.getElem_toArray, List.getElem_cons_succ, List.getElem_cons_zero, List.setIfInBounds_toArray, List.set_cons_zero, List.set_cons_succ]
    refine wpAnyH_take (i := 11) (v := ?_) rfl (by kernel_rfl) (by kernel_rfl) (by kernel_rfl) (fun _ _ _ h => h) (Or.inl ⟨by rfl, ?_⟩) hS0 ?_
    rotate_left
    · rintro w' ⟨s1, s2, s3, s4, s5⟩
      go_simp
      first | done | with_reducible rfl | rfl
    simp only [Act.put, List.getElem_toArray, List.getElem_cons_succ, List.getElem_cons_zero, List.setIfInBounds_toArray, List.set_cons_zero, List.set_cons_succ]
    refine wpAnyH_take (i := 12) (v := ?_) rfl (by kernel_rfl) (by kernel_rfl) (by kernel_rfl) (fun _ _ _ h => h) (Or.inl ⟨by rfl, ?_⟩) hS0 ?_
    rotate_left
    · rintro w' ⟨s1, s2, s3, s4, s5⟩
      go_simp
      first | done | with_reducible rfl | rfl
    simp only [Act.put, List.getElem_toArray, List.getElem_cons_succ, List.getElem_cons_zero, List.setIfInBounds_toArray, List.set_cons_zero, List.set_cons_succ]
    refine wpAnyH_take (i := 13) (v := ?_) rfl (by kernel_rfl) (by kernel_rfl) (by kernel_rfl) (fun _ _ _ h => h) (Or.inl ⟨by rfl, ?_⟩) hS0 ?_
    rotate_left
    · rintro w' ⟨s1, s2, s3, s4, s5⟩
      go_simp
      first | done | with_reducible rfl | rfl
    simp only [Act.put, List.getElem_toArray, List.getElem_cons_succ, List.getElem_cons_zero, List.setIfInBounds_toArray, List.set_cons_zero, List.set_cons_succ]
    rw [if_neg (show ¬ c = k by omega)]
    refine wpAnyH_ready (rs := [0, 9]) (by kernel_rfl) (by simp) (AllReadyH.cons rfl (fun K hK => ?_) (AllReadyH.cons rfl (fun K hK => ?_) AllReadyH.nil))
    · go_simp
      obtain ⟨g0, hg0⟩ : ∃ g, g = W0.heap.size := ⟨_, rfl⟩
      obtain ⟨W1, hW1⟩ : ∃ V : World, V = W0.alloc (.cells #[] 35) := ⟨_, rfl⟩
      have B1 := Lib.hid (show Below W.heap.size W W1 by rw [hW1]; exact B0.out.alloc B0.out.size _)
      have Z1 := Lib.hid (show g0 < W1.heap.size ∧ W0.heap.size < W1.heap.size by rw [hW1, hg0]; simp)
      have own := Lib.hid (show OwnN W1 W.heap.size (.slice (some ⟨g0, 0, none⟩) 0 0) [] by rw [hW1, hg0]; exact OwnN.start_at B0.out.size)
      rw [← hg0, ← hW1]
      clear hg0 hW1
      refine hK.out _ _ (HCK.out.below (B1.out.block b hbw)) (fun hS1 => ?_)
      clear hK K
      refine wpAnyH_ready (rs := [4, 9]) (by kernel_rfl) (by simp) (AllReadyH.cons rfl (fun K hK => ?_) (AllReadyH.cons rfl (fun K hK => ?_) AllReadyH.nil))
      · rw [if_pos (by rfl)]
        refine oper_append_nodes (.tmp 40) (.tmp 43) rfl W.heap.size (.slice (some ⟨g0, 0, none⟩) 0 0) [] (l.take k) (some ⟨b, off, none⟩) k c rfl rfl own.out ((HNW.out.below B1.out).cut k) (by rw [List.length_take]; have := HKL.out; omega) (fun e => by cases e) (by simp; omega) B1.out.size ?_
        intro v1 W4 ho hgw hat
        simp only [Act.put, List.getElem_toArray, List.getElem_cons_succ, List.getElem_cons_zero, List.setIfInBounds_toArray, List.set_cons_zero, List.set_cons_succ]
        have B4 := Lib.hid (B1.out.grown hgw B1.out.size (fun q hq => (own.out.lt q hq).1))
        have own := Lib.hid ho
        refine hK.out _ _ (HCK.out.below (B4.out.block b hbw)) (fun hS4 => ?_)
        clear hK K ho hgw hat
        refine wpAnyH_ready (rs := [9]) (by kernel_rfl) (by simp) (AllReadyH.cons rfl (fun K hK => ?_) AllReadyH.nil)
        go_simp
        obtain ⟨g9, hg9⟩ : ∃ g, g = W4.heap.size := ⟨_, rfl⟩
        obtain ⟨W9, hW9⟩ : ∃ V : World, V = W4.alloc (.cells #[.int .i64 y.lv, .int .i64 y.a, .int .i64 y.b, .int .i64 y.c, .int .i64 y.d] 35) := ⟨_, rfl⟩
        have B9 := Lib.hid (show Below W.heap.size W W9 by rw [hW9]; exact B4.out.alloc B4.out.size _)
        have Z9 := Lib.hid (show g9 < W9.heap.size ∧ W4.heap.size < W9.heap.size by rw [hW9, hg9]; simp)
        have own0 := own
        have own := Lib.hid (show OwnN W9 W.heap.size _ _ by rw [hW9]; exact own.out.alloc _)
        have ns := Lib.hid (show Ns W9 (some ⟨g9, 0, none⟩) 1 [y] by rw [hW9]; exact ns_lit1 W4 g9 y hwy.out hg9.symm)
        have hv9 := Lib.hid (show ∀ q, v1.ownBlock = some q → q ≠ g9 from fun q hq => by have := (own0.out.lt q hq).2; rw [hg9]; omega)
        rw [← hg9, ← hW9]
        clear hg9 hW9
        refine hK.out _ _ (HCK.out.below (B9.out.block b hbw)) (fun hS9 => ?_)
        clear hK K
        refine wpAnyH_ready (rs := [10]) (by kernel_rfl) (by simp) (AllReadyH.cons rfl (fun K hK => ?_) AllReadyH.nil)
        rw [if_pos (by rfl)]
        refine oper_append_nodes (.tmp 44) (.tmp 49) rfl W.heap.size v1 _ [y] (some ⟨g9, 0, none⟩) 1 1 rfl rfl own.out ns.out rfl (fun e => by cases e) (by simp; omega) B9.out.size ?_
        intro v2 Wf2 ho hgw hat
        simp only [Act.put, List.getElem_toArray, List.getElem_cons_succ, List.getElem_cons_zero, List.setIfInBounds_toArray, List.set_cons_zero, List.set_cons_succ]
        have Bf2 := Lib.hid (B9.out.grown hgw B9.out.size (fun q hq => (own.out.lt q hq).1))
        have hdum : True := trivial
        have own := Lib.hid ho
        refine hK.out _ _ (HCK.out.below (Bf2.out.block b hbw)) (fun hSf2 => ?_)
        clear hK K ho hgw hat
        refine wpAnyH_ready (rs := [14]) (by kernel_rfl) (by simp) (AllReadyH.cons rfl (fun K hK => ?_) AllReadyH.nil)
        rw [if_pos (by rfl)]
        refine oper_append_nodes (.tmp 50) (.tmp 53) rfl W.heap.size v2 _ (l.drop k) (some ⟨b, off + k * 5, none⟩) (n - k) (c - k) rfl rfl own.out ((HNW.out.below Bf2.out).rest (by have := HKL.out; omega)) (by rw [List.length_drop, HL.out]) (fun e => by cases e) (by simp; omega) Bf2.out.size ?_
        intro v3 Wf3 ho hgw hat
        simp only [Act.put, List.getElem_toArray, List.getElem_cons_succ, List.getElem_cons_zero, List.setIfInBounds_toArray, List.set_cons_zero, List.set_cons_succ]
        have Bf3 := Lib.hid (Bf2.out.grown hgw Bf2.out.size (fun q hq => (own.out.lt q hq).1))
        have hdum : True := trivial
        have own := Lib.hid ho
        refine hK.out _ _ (HCK.out.below (Bf3.out.block b hbw)) (fun hSf3 => ?_)
        clear hK K ho hgw hat
        refine wpAnyH_ready (rs := [15]) (by kernel_rfl) (by simp) (AllReadyH.cons rfl (fun K hK => ?_) AllReadyH.nil)
        go_simp
        refine hK.out _ _ (HCK.out.below (Bf3.out.block b hbw)) (fun hSf4 => ?_)
        clear hK K
        refine wpAnyH_done (by kernel_rfl) ?_ _
        refine NoPanic.normal ?_
        go_wp2_with fail
        go_meet
        obtain ⟨A8, c8, hv8, hn8, _⟩ := own.out.shape
        have hln : (List.take k l ++ [y] ++ List.drop k l).length = n + 1 := by rw [← HT.out]; exact HTL.out
        have e8 : [] ++ List.take k l ++ [y] ++ List.drop k l = T := by rw [HT.out]; rfl
        rw [e8] at hv8 hn8
        rw [HTL.out] at hv8
        exact ⟨A8, c8, hv8, hn8, Bf3.out⟩
      · go_simp
        obtain ⟨g9, hg9⟩ : ∃ g, g = W1.heap.size := ⟨_, rfl⟩
        obtain ⟨W9, hW9⟩ : ∃ V : World, V = W1.alloc (.cells #[.int .i64 y.lv, .int .i64 y.a, .int .i64 y.b, .int .i64 y.c, .int .i64 y.d] 35) := ⟨_, rfl⟩
        have B9 := Lib.hid (show Below W.heap.size W W9 by rw [hW9]; exact B1.out.alloc B1.out.size _)
        have Z9 := Lib.hid (show g9 < W9.heap.size ∧ W1.heap.size < W9.heap.size by rw [hW9, hg9]; simp)
        have own0 := own
        have own := Lib.hid (show OwnN W9 W.heap.size _ _ by rw [hW9]; exact own.out.alloc _)
        have ns := Lib.hid (show Ns W9 (some ⟨g9, 0, none⟩) 1 [y] by rw [hW9]; exact ns_lit1 W1 g9 y hwy.out hg9.symm)
        have hv9 := Lib.hid (show ∀ q, (Value.slice (some ⟨g0, 0, none⟩) 0 0).ownBlock = some q → q ≠ g9 from fun q hq => by have := (own0.out.lt q hq).2; rw [hg9]; omega)
        rw [← hg9, ← hW9]
        clear hg9 hW9
        refine hK.out _ _ (HCK.out.below (B9.out.block b hbw)) (fun hS9 => ?_)
        clear hK K
        have h09 := Lib.hid (hv9.out g0 rfl)
        refine wpAnyH_ready (rs := [4]) (by kernel_rfl) (by simp) (AllReadyH.cons rfl (fun K hK => ?_) AllReadyH.nil)
        rw [if_pos (by rfl)]
        refine oper_append_nodes (.tmp 40) (.tmp 43) rfl W.heap.size (.slice (some ⟨g0, 0, none⟩) 0 0) [] (l.take k) (some ⟨b, off, none⟩) k c rfl rfl own.out ((HNW.out.below B9.out).cut k) (by rw [List.length_take]; have := HKL.out; omega) (fun e => by cases e) (by simp; omega) B9.out.size ?_
        intro v1 W4 ho hgw hat
        simp only [Act.put, List.getElem_toArray, List.getElem_cons_succ, List.getElem_cons_zero, List.setIfInBounds_toArray, List.set_cons_zero, List.set_cons_succ]
        have B4 := Lib.hid (B9.out.grown hgw B9.out.size (fun q hq => (own.out.lt q hq).1))
        have hv9 := Lib.hid (show ∀ q, v1.ownBlock = some q → q ≠ g9 from fun q hq => by
          rcases hat with h | h
          · rw [h] at hq
            cases hq
            exact h09.out
          · rw [h] at hq
            cases hq
            have := Z9.out.1
            omega)
        have ns := Lib.hid (ns.out.gbr hgw (fun a e => by cases e; exact fun e2 => h09.out (by cases e2; rfl)))
        have own := Lib.hid ho
        refine hK.out _ _ (HCK.out.below (B4.out.block b hbw)) (fun hS4 => ?_)
        clear hK K ho hgw hat
        refine wpAnyH_ready (rs := [10]) (by kernel_rfl) (by simp) (AllReadyH.cons rfl (fun K hK => ?_) AllReadyH.nil)
        rw [if_pos (by rfl)]
        refine oper_append_nodes (.tmp 44) (.tmp 49) rfl W.heap.size v1 _ [y] (some ⟨g9, 0, none⟩) 1 1 rfl rfl own.out ns.out rfl (fun e => by cases e) (by simp; omega) B4.out.size ?_
        intro v2 Wf2 ho hgw hat
        simp only [Act.put, List.getElem_toArray, List.getElem_cons_succ, List.getElem_cons_zero, List.setIfInBounds_toArray, List.set_cons_zero, List.set_cons_succ]
        have Bf2 := Lib.hid (B4.out.grown hgw B4.out.size (fun q hq => (own.out.lt q hq).1))
        have hdum : True := trivial
        have own := Lib.hid ho
        refine hK.out _ _ (HCK.out.below (Bf2.out.block b hbw)) (fun hSf2 => ?_)
        clear hK K ho hgw hat
        refine wpAnyH_ready (rs := [14]) (by kernel_rfl) (by simp) (AllReadyH.cons rfl (fun K hK => ?_) AllReadyH.nil)
        rw [if_pos (by rfl)]
        refine oper_append_nodes (.tmp 50) (.tmp 53) rfl W.heap.size v2 _ (l.drop k) (some ⟨b, off + k * 5, none⟩) (n - k) (c - k) rfl rfl own.out ((HNW.out.below Bf2.out).rest (by have := HKL.out; omega)) (by rw [List.length_drop, HL.out]) (fun e => by cases e) (by simp; omega) Bf2.out.size ?_
        intro v3 Wf3 ho hgw hat
        simp only [Act.put, List.getElem_toArray, List.getElem_cons_succ, List.getElem_cons_zero, List.setIfInBounds_toArray, List.set_cons_zero, List.set_cons_succ]
        have Bf3 := Lib.hid (Bf2.out.grown hgw Bf2.out.size (fun q hq => (own.out.lt q hq).1))
        have hdum : True := trivial
        have own := Lib.hid ho
        refine hK.out _ _ (HCK.out.below (Bf3.out.block b hbw)) (fun hSf3 => ?_)
        clear hK K ho hgw hat
        refine wpAnyH_ready (rs := [15]) (by kernel_rfl) (by simp) (AllReadyH.cons rfl (fun K hK => ?_) AllReadyH.nil)
        go_simp
        refine hK.out _ _ (HCK.out.below (Bf3.out.block b hbw)) (fun hSf4 => ?_)
        clear hK K
        refine wpAnyH_done (by kernel_rfl) ?_ _
        refine NoPanic.normal ?_
        go_wp2_with fail
        go_meet
        obtain ⟨A8, c8, hv8, hn8, _⟩ := own.out.shape
        have hln : (List.take k l ++ [y] ++ List.drop k l).length = n + 1 := by rw [← HT.out]; exact HTL.out
        have e8 : [] ++ List.take k l ++ [y] ++ List.drop k l = T := by rw [HT.out]; rfl
        rw [e8] at hv8 hn8
        rw [HTL.out] at hv8
        exact ⟨A8, c8, hv8, hn8, Bf3.out⟩
    · go_simp
      obtain ⟨g9, hg9⟩ : ∃ g, g = W0.heap.size := ⟨_, rfl⟩
      obtain ⟨W9, hW9⟩ : ∃ V : World, V = W0.alloc (.cells #[.int .i64 y.lv, .int .i64 y.a, .int .i64 y.b, .int .i64 y.c, .int .i64 y.d] 35) := ⟨_, rfl⟩
      have B9 := Lib.hid (show Below W.heap.size W W9 by rw [hW9]; exact B0.out.alloc B0.out.size _)
      have Z9 := Lib.hid (show g9 < W9.heap.size ∧ W0.heap.size < W9.heap.size by rw [hW9, hg9]; simp)
      have ns := Lib.hid (show Ns W9 (some ⟨g9, 0, none⟩) 1 [y] by rw [hW9]; exact ns_lit1 W0 g9 y hwy.out hg9.symm)
      rw [← hg9, ← hW9]
      clear hg9 hW9
      refine hK.out _ _ (HCK.out.below (B9.out.block b hbw)) (fun hS9 => ?_)
      clear hK K
      refine wpAnyH_ready (rs := [0]) (by kernel_rfl) (by simp) (AllReadyH.cons rfl (fun K hK => ?_) AllReadyH.nil)
      go_simp
      obtain ⟨g0, hg0⟩ : ∃ g, g = W9.heap.size := ⟨_, rfl⟩
      obtain ⟨W1, hW1⟩ : ∃ V : World, V = W9.alloc (.cells #[] 35) := ⟨_, rfl⟩
      have B1 := Lib.hid (show Below W.heap.size W W1 by rw [hW1]; exact B9.out.alloc B9.out.size _)
      have Z1 := Lib.hid (show g0 < W1.heap.size ∧ W9.heap.size < W1.heap.size by rw [hW1, hg0]; simp)
      have own := Lib.hid (show OwnN W1 W.heap.size (.slice (some ⟨g0, 0, none⟩) 0 0) [] by rw [hW1, hg0]; exact OwnN.start_at B9.out.size)
      have ns := Lib.hid (show Ns W1 (some ⟨g9, 0, none⟩) 1 [y] by rw [hW1]; exact ns.out.below ((Below.refl _ _).alloc (Nat.le_refl _) _))
      have h09 := Lib.hid (show g0 ≠ g9 by rw [hg0]; have := Z9.out.1; omega)
      rw [← hg0, ← hW1]
      clear hg0 hW1
      refine hK.out _ _ (HCK.out.below (B1.out.block b hbw)) (fun hS1 => ?_)
      clear hK K
      refine wpAnyH_ready (rs := [4]) (by kernel_rfl) (by simp) (AllReadyH.cons rfl (fun K hK => ?_) AllReadyH.nil)
      rw [if_pos (by rfl)]
      refine oper_append_nodes (.tmp 40) (.tmp 43) rfl W.heap.size (.slice (some ⟨g0, 0, none⟩) 0 0) [] (l.take k) (some ⟨b, off, none⟩) k c rfl rfl own.out ((HNW.out.below B1.out).cut k) (by rw [List.length_take]; have := HKL.out; omega) (fun e => by cases e) (by simp; omega) B1.out.size ?_
      intro v1 W4 ho hgw hat
      simp only [Act.put, List.getElem_toArray, List.getElem_cons_succ, List.getElem_cons_zero, List.setIfInBounds_toArray, List.set_cons_zero, List.set_cons_succ]
      have B4 := Lib.hid (B1.out.grown hgw B1.out.size (fun q hq => (own.out.lt q hq).1))
      have hv9 := Lib.hid (show ∀ q, v1.ownBlock = some q → q ≠ g9 from fun q hq => by
        rcases hat with h | h
        · rw [h] at hq
          cases hq
          exact h09.out
        · rw [h] at hq
          cases hq
          have := Z9.out.1; have := Z1.out.2
          omega)
      have ns := Lib.hid (ns.out.gbr hgw (fun a e => by cases e; exact fun e2 => h09.out (by cases e2; rfl)))
      have own := Lib.hid ho
      refine hK.out _ _ (HCK.out.below (B4.out.block b hbw)) (fun hS4 => ?_)
      clear hK K ho hgw hat
      refine wpAnyH_ready (rs := [10]) (by kernel_rfl) (by simp) (AllReadyH.cons rfl (fun K hK => ?_) AllReadyH.nil)
      rw [if_pos (by rfl)]
      refine oper_append_nodes (.tmp 44) (.tmp 49) rfl W.heap.size v1 _ [y] (some ⟨g9, 0, none⟩) 1 1 rfl rfl own.out ns.out rfl (fun e => by cases e) (by simp; omega) B4.out.size ?_
      intro v2 Wf2 ho hgw hat
      simp only [Act.put, List.getElem_toArray, List.getElem_cons_succ, List.getElem_cons_zero, List.setIfInBounds_toArray, List.set_cons_zero, List.set_cons_succ]
      have Bf2 := Lib.hid (B4.out.grown hgw B4.out.size (fun q hq => (own.out.lt q hq).1))
      have hdum : True := trivial
      have own := Lib.hid ho
      refine hK.out _ _ (HCK.out.below (Bf2.out.block b hbw)) (fun hSf2 => ?_)
      clear hK K ho hgw hat
      refine wpAnyH_ready (rs := [14]) (by kernel_rfl) (by simp) (AllReadyH.cons rfl (fun K hK => ?_) AllReadyH.nil)
      rw [if_pos (by rfl)]
      refine oper_append_nodes (.tmp 50) (.tmp 53) rfl W.heap.size v2 _ (l.drop k) (some ⟨b, off + k * 5, none⟩) (n - k) (c - k) rfl rfl own.out ((HNW.out.below Bf2.out).rest (by have := HKL.out; omega)) (by rw [List.length_drop, HL.out]) (fun e => by cases e) (by simp; omega) Bf2.out.size ?_
      intro v3 Wf3 ho hgw hat
      simp only [Act.put, List.getElem_toArray, List.getElem_cons_succ, List.getElem_cons_zero, List.setIfInBounds_toArray, List.set_cons_zero, List.set_cons_succ]
      have Bf3 := Lib.hid (Bf2.out.grown hgw Bf2.out.size (fun q hq => (own.out.lt q hq).1))
      have hdum : True := trivial
      have own := Lib.hid ho
      refine hK.out _ _ (HCK.out.below (Bf3.out.block b hbw)) (fun hSf3 => ?_)
      clear hK K ho hgw hat
      refine wpAnyH_ready (rs := [15]) (by kernel_rfl) (by simp) (AllReadyH.cons rfl (fun K hK => ?_) AllReadyH.nil)
      go_simp
      refine hK.out _ _ (HCK.out.below (Bf3.out.block b hbw)) (fun hSf4 => ?_)
      clear hK K
      refine wpAnyH_done (by kernel_rfl) ?_ _
      refine NoPanic.normal ?_
      go_wp2_with fail
      go_meet
      obtain ⟨A8, c8, hv8, hn8, _⟩ := own.out.shape
      have hln : (List.take k l ++ [y] ++ List.drop k l).length = n + 1 := by rw [← HT.out]; exact HTL.out
      have e8 : [] ++ List.take k l ++ [y] ++ List.drop k l = T := by rw [HT.out]; rfl
      rw [e8] at hv8 hn8
      rw [HTL.out] at hv8
      exact ⟨A8, c8, hv8, hn8, Bf3.out⟩
  case rest =>
    obtain ⟨A8, c8, rfl, hn8, hb8⟩ := hcut
    obtain ⟨V, hV⟩ : ∃ V : World, Below W.heap.size W V ∧ Ns V A8 c8 T ∧ V = _ := ⟨_, hb8, hn8, rfl⟩
    have HV := Lib.hid hV.1
    have HTV := Lib.hid hV.2.1
    have he := hV.2.2
    clear hV hb8 hn8
    subst he
    have cq := (HV.out.cell (p := ⟨gq, 0, none⟩) hq1).trans CQ.out
    have cr := (HV.out.cell (p := ⟨gr, 0, none⟩) hr1).trans CR.out
    have HNV := Lib.hid (HNW.out.below HV.out)
    have HBV := Lib.hid (HBW.out.trans (HV.out.mono HBW.out.size))
    have hne : l ≠ [] := fun e => by have := HKL.out; rw [e] at this; simp at this
    have HLV := Lib.hid (show levelZ l = x.lv by unfold levelZ; rw [if_neg hne, HX.out, HL.out])
    have HHO := Lib.hid (show hollowB l n = false by rw [← HL.out]; exact quad_hollow HQ.out hne)
    have HEM := Lib.hid (quad_empty HQ.out hne HKL.out)
    have HPAR := Lib.hid (quad_par HQ.out hne HKL.out)
    have e1 : IntKind.i64.wrap ((k : Int) + 1) = (k : Int) + 1 := IntWalk.i64_in _ (by omega)
    have hqv : gq < V.heap.size := Nat.lt_of_lt_of_le hq1 HV.out.size
    have hrv : gr < V.heap.size := Nat.lt_of_lt_of_le hr1 HV.out.size
    have q0 : True := trivial
    clear hne
    go_wp2_with fail
    go_region_held3 (fun w' => w'.cell? ⟨gq, 0, none⟩ = some (.slice (some ⟨b, off, none⟩) n c) ∧ w'.cell? ⟨gr, 0, none⟩ = some (.int .i64 x.lv))
      (first | go_keep | fail)
      (first
        | (have _t := q0; go_at_call 17; clear _t; refine (nlevel_any _ _ n l _ HNV.out.drew HL.out).mono ?_; rintro e w3 ⟨rfl, b3⟩; rw [HLV.out]; have y1 := (b3.cell (p := ⟨gq, 0, none⟩) hqv).trans cq; have y2 := (b3.cell (p := ⟨gr, 0, none⟩) hrv).trans cr; have S3 := Lib.hid ((Below.drew (Below.refl V.heap.size V)).trans b3); clear b3; have q1 := q0; clear q0)
        | (have _t := q1; go_at_call 9; clear _t; refine (nright_any _ _ (n + 1) T _ (HTV.out.below S3.out) HTL.out (by omega)).mono ?_; rintro e w4 ⟨rfl, b4⟩; rw [HTQ.out]; have b4' := b4.mono S3.out.size; have y3 := (b4'.cell (p := ⟨gq, 0, none⟩) hqv).trans y1; have y4 := (b4'.cell (p := ⟨gr, 0, none⟩) hrv).trans y2; have S4 := Lib.hid (S3.out.trans b4'); clear b4 b4'; have q2 := q1; clear q1)
        | (have _t := q2; go_at_call 15; clear _t; refine (hollow_any _ _ n l n _ (HNV.out.below S4.out) HL.out HLL.out (Nat.le_refl _)).mono ?_; rintro e w5 ⟨rfl, b5⟩; rw [HHO.out]; have b5' := b5.mono S4.out.size; have y5 := (b5'.cell (p := ⟨gq, 0, none⟩) hqv).trans y3; have y6 := (b5'.cell (p := ⟨gr, 0, none⟩) hrv).trans y4; have S5 := Lib.hid (S4.out.trans b5'); clear b5 b5'; have q3 := q2; clear q2)
        | (have _t := q3; go_at_call 13; clear _t; refine (empty_at _ _ n (k + 1) _ l _ (HNV.out.below S5.out) HL.out HLL.out (by omega) (by omega)).mono ?_; rintro e w6 ⟨rfl, b6⟩; rw [HEM.out]; have b6' := b6.mono S5.out.size; have y7 := (b6'.cell (p := ⟨gq, 0, none⟩) hqv).trans y5; have y8 := (b6'.cell (p := ⟨gr, 0, none⟩) hrv).trans y6; have S6 := Lib.hid (S5.out.trans b6'); clear b6 b6'; have q4 := q3; clear q3))
    have HN6 := Lib.hid (HNV.out.below S6.out)
    have HB6 := Lib.hid (HBV.out.trans (S6.out.mono HBV.out.size))
    clear cq cr y1 y2 y3 y4 y5 y6 y7 y8 e1
    go_wp2_with fail
    go_loop [9, 10] (fun s9 s10 => ∃ (i : Nat) (v : Value), k + 1 ≤ i ∧ i ≤ n ∧ s9 = .int .i64 (i : Int) ∧ s10 = v ∧ ∀ j, k < j → j < i → ∀ q, q < 4 → ¬ (1 < (at_ l j).lv ∧ (at_ l j).kid q = ((k + 1 : Nat) : Int))) (fun s9 _ => n - (intOf s9).toNat)
    case atStart => exact ⟨k + 1, _, Nat.le_refl _, by omega, by go_num, rfl, fun j h1 h2 => by omega⟩
    case round =>
      obtain ⟨i, v, hi1, hi2, rfl, rfl, hall⟩ := hrel
      have HA := Lib.hid hall
      clear hall
      by_cases hlt : i < n
      · obtain ⟨bb, oo, ee, hbb, hcc⟩ := HN6.out.at_ (by rw [HL.out]; exact h0)
        cases ee
        have hck := hcc i (by rw [HL.out]; exact hlt)
        obtain ⟨z, hz⟩ : ∃ z, z = at_ l i := ⟨_, rfl⟩
        rw [← hz] at hck
        have HZ := Lib.hid hz
        have HZK := Lib.hid hck
        have c1 := hck.1
        have j0 : (0 : Int) ≤ (i : Int) := by omega
        have j1 : (i : Int) < (n : Int) := by omega
        clear hz hck hcc
        go_wp2_with fail
        go_loop [10] (fun s10 => ∃ (q : Nat), q ≤ 4 ∧ s10 = .int .i64 (q : Int) ∧ ∀ p, p < q → ¬ (1 < z.lv ∧ z.kid p = ((k + 1 : Nat) : Int))) (fun s10 => 4 - (intOf s10).toNat)
        case atStart => exact ⟨0, by omega, rfl, fun p hp => by omega⟩
        case round =>
          obtain ⟨q, hq, rfl, hno⟩ := hrel
          have HNO := Lib.hid hno
          clear hno
          by_cases hq4 : q < 4
          · have hy := HZK.out.kid hq4
            obtain ⟨u, hu⟩ : ∃ u, u = z.kid q := ⟨_, rfl⟩
            rw [← hu] at hy
            have HU := Lib.hid hu
            have j2 : (0 : Int) ≤ (q : Int) := by omega
            have j3 : (q : Int) < 4 := by omega
            clear hu
            by_cases hlv : 1 < z.lv
            · have t1 : decide (1 < z.lv) = true := decide_eq_true hlv
              by_cases huk : u = (k : Int) + 1
              · have t2 : (u == (k : Int) + 1) = true := by rw [beq_iff_eq]; exact huk
                have HUK := Lib.hid huk
                clear huk
                go_wp2_with fail
                go_ret
                exact ⟨rfl, HB6.out⟩
              · have t2 : (u == (k : Int) + 1) = false := beq_eq_false_iff_ne.2 huk
                have HUK := Lib.hid huk
                clear huk
                go_wp2_with fail
                go_round
                case rel =>
                  refine ⟨q + 1, by omega, by go_num, fun p hp => ?_⟩
                  rcases Nat.lt_or_ge p q with h1 | h1
                  · exact HNO.out p h1
                  · rw [show p = q by omega, ← HU.out]
                    exact fun h => HUK.out (by rw [h.2]; omega)
                case measure => simp [intOf]; omega
            · have t1 : decide (1 < z.lv) = false := decide_eq_false hlv
              have HV1 := Lib.hid hlv
              clear hlv
              go_wp2_with fail
              go_round
              case rel =>
                refine ⟨q + 1, by omega, by go_num, fun p hp => ?_⟩
                exact fun h => HV1.out h.1
              case measure => simp [intOf]; omega
          · go_wp2_with fail
            go_round
            case rel =>
              refine ⟨i + 1, _, by omega, by omega, by go_num, rfl, fun j h1 h2 p hp => ?_⟩
              rcases Nat.lt_or_ge j i with h3 | h3
              · exact HA.out j h1 h3 p hp
              · rw [show j = i by omega, ← HZ.out]
                exact HNO.out p (by omega)
            case measure => simp [intOf]; omega
      · have hkl : k + 1 = n := by
          rcases HPAR.out with h | ⟨_, u, h1, h2, h3, p, hp, h4⟩
          · rw [← HL.out]; exact h
          · exact absurd ⟨h3, h4⟩ (HA.out (u - 1) (by omega) (by have := HL.out; omega) p hp)
        have t1 : ((k : Int) == (n : Int) - 1) = true := by rw [show (n : Int) - 1 = (k : Int) by omega]; simp
        have HKL2 := Lib.hid hkl
        clear hkl
        go_wp2_with fail
        go_ret
        exact ⟨rfl, HB6.out⟩
theorem nodeones_any (A : Option Addr) (c : Nat) (m : Int) (l : List Nd) (w : World) (h : Ns w A c l) (hA : A = none → c = 0) (hm : 0 ≤ m ∧ m ≤ 255) :
    Calls Try.prog 4 #[.slice A l.length c, .int .u8 m] w fun e w' => e = .returned (.bool true) ∧ Below w.heap.size w w' := by
  have hc := h.cap
  by_cases h6 : 60 < l.length
  · exact nodeones_great A c _ m w h6 (by omega)
  · cases hq : quadB l with
    | false => exact nodeones_not A c _ m l w h rfl (by omega) hq
    | true =>
      by_cases h0 : l = []
      · subst h0
        exact nodeones_none A c m w h
      · obtain ⟨q, rfl⟩ : ∃ q : Nat, m = (q : Int) := ⟨m.toNat, by omega⟩
        exact nodeones_main A c _ q _ l w h rfl (by omega) hq (List.length_pos_iff.2 h0) (by omega) rfl
end Go.Proofs.Ytilhnnbmplnnpaa
