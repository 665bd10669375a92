/-
  NodeLevels holds of every input: the walk.
-/
import Derived.Test.YtilhnnbmplnnpaaNdsQ
import Derived.Test.YtilhnnbmplnnpaaNdAlive
import Derived.Test.YtilhnnbmplnnpaaNdOwn

namespace Go.Proofs.Ytilhnnbmplnnpaa
set_option linter.unusedVariables false
set_option linter.unusedSimpArgs false
open Go.RowKit Nds
theorem box_quad (w : World) (A : Option Addr) (n c : Nat) : (w.alloc (.cells #[.slice A n c] 27)).cell? ⟨w.heap.size, 0, none⟩ = some (.slice A n c) := by
  rw [cell_of_row _ _ _ _ _ _ (heap_alloc_new w (.cells #[.slice A n c] 27))]
  rfl
set_option maxRecDepth 100000 in
set_option maxHeartbeats 3200000 in
theorem nodelevels_great (A : Option Addr) (c n : Nat) (w : World) (h : 60 < n) (hn : n ≤ 9223372036854775807) :
    Calls Try.prog 5 #[.slice A n c] w fun e w' => e = .returned (.bool true) ∧ Below w.heap.size w w' := by
  go_enter Try.func5, Try.ntmps5
  go_wp2_with (go_at_call 6; refine (alive5_any _).mono ?_; rintro e w1 ⟨rfl, b1⟩; have B1 := Lib.hid b1; clear b1)
  go_ret
  exact ⟨rfl, B1.out.alloc B1.out.size _⟩
set_option maxRecDepth 100000 in
set_option maxHeartbeats 3200000 in
theorem nodelevels_not (A : Option Addr) (c n : Nat) (l : List Nd) (w : World) (h : Ns w A c l) (hn : l.length = n) (hn6 : n ≤ 60) (hq : quadB l = false) :
    Calls Try.prog 5 #[.slice A n c] w fun e w' => e = .returned (.bool true) ∧ Below w.heap.size w w' := by
  have HN := Lib.hid h
  have HL := Lib.hid hn
  have HQ := Lib.hid hq
  clear h hn hq
  go_enter Try.func5, Try.ntmps5
  go_wp2_with (first
    | (go_at_call 6; refine (alive5_any _).mono ?_; rintro e w1 ⟨rfl, b1⟩; have B1 := Lib.hid (b1.alloc b1.size (.cells #[.slice A n c] 27)); clear b1)
    | (go_at_call 9; go_loud (refine (nright_any _ _ n l _ (HN.out.below B1.out) HL.out (by omega)).mono ?_; rintro e w2 ⟨rfl, b2⟩; have B2 := Lib.hid b2; clear b2; rw [HQ.out])))
  go_ret
  exact ⟨rfl, B1.out.trans (B2.out.mono B1.out.size)⟩
set_option maxRecDepth 100000 in
set_option maxHeartbeats 6400000 in
theorem nodelevels_main (A : Option Addr) (c n : Nat) (l : List Nd) (w : World) (h : Ns w A c l) (hn : l.length = n) (hn6 : n ≤ 60) (hq : quadB l = true) :
    Calls Try.prog 5 #[.slice A n c] w fun e w' => e = .returned (.bool true) ∧ Below w.heap.size w w' := by
  have HN := Lib.hid h
  have HL := Lib.hid hn
  have HQ := Lib.hid hq
  have HLL := Lib.hid (quad_loose hq)
  have hcap := h.cap
  rw [hn] at hcap
  clear h hn hq
  go_enter Try.func5, Try.ntmps5
  go_wp2_with (first
    | (go_at_call 6; refine (alive5_any _).mono ?_; rintro e w1 ⟨rfl, b1⟩; have B1 := Lib.hid (b1.alloc b1.size (.cells #[.slice A n c] 27)); have C1 := Lib.hid (box_quad w1 A n c); clear b1)
    | (go_at_call 9; go_loud (refine (nright_any _ _ n l _ (HN.out.below B1.out) HL.out (by omega)).mono ?_; rintro e w2 ⟨rfl, b2⟩; have B2 := Lib.hid b2; clear b2; rw [HQ.out])))
  obtain ⟨g, hg⟩ : ∃ g, g = w1.heap.size := ⟨_, rfl⟩
  have hgw : g < w2.heap.size := by
    have := B2.out.size
    simp at this
    omega
  have cq : w2.cell? ⟨g, 0, none⟩ = some (.slice A n c) := by
    rw [hg]
    exact (B2.out.cell (p := ⟨w1.heap.size, 0, none⟩) (by simp)).trans C1.out
  have HB := Lib.hid (B1.out.trans (B2.out.mono B1.out.size))
  rw [← hg]
  have HN2 := Lib.hid (HN.out.below HB.out)
  clear hg
  have CQ := Lib.hid cq
  clear cq
  go_loopw [4, 5, 6] (fun i z1 z2 wr => ∃ (k : Nat) (v1 v2 : Value), k ≤ n ∧ i = .int .i64 k ∧ z1 = v1 ∧ z2 = v2 ∧ Below w2.heap.size w2 wr) (fun i _ _ _ => n - (intOf i).toNat)
  case atStart => exact ⟨0, _, _, by omega, rfl, rfl, rfl, Below.refl _ _⟩
  case round =>
    obtain ⟨k, v1, v2, hk, rfl, rfl, rfl, hbw⟩ := hrel
    have cq := (hbw.cell (p := ⟨g, 0, none⟩) hgw).trans CQ.out
    by_cases hlt : k < n
    · have hkl : k < l.length := by rw [HL.out]; exact hlt
      have hne : l ≠ [] := fun e => by rw [e] at hkl; simp at hkl
      have HNE := Lib.hid hne
      obtain ⟨b, off, rfl, hb, hc⟩ := HN2.out.at_ (by omega)
      have HC := Lib.hid hc
      have hck := (hc k hkl).below (hbw.block b hb)
      obtain ⟨c1, -, -, -, -⟩ := id hck
      have HCK := Lib.hid hck
      have HKL := Lib.hid hkl
      have HNr := Lib.hid (HN2.out.below hbw)
      have hpar := quad_par HQ.out hne hkl
      have hfx := Lib.hid (loose_iff.1 HLL.out k hkl)
      have hroot : levelZ l = (at_ l (l.length - 1)).lv := by unfold levelZ; rw [if_neg hne]
      obtain ⟨rt, hrt⟩ : ∃ rt, rt = levelZ l := ⟨_, rfl⟩
      have HRT := Lib.hid hrt
      rw [← hroot, ← hrt] at hpar
      clear hc hck hkl hne
      obtain ⟨x, hx⟩ : ∃ x, x = at_ l k := ⟨_, rfl⟩
      have hpar2 : (x.lv < rt) ∨ (x.lv = rt ∧ k + 1 = n) := by
        rw [hx]
        rcases hpar with h | ⟨h, _⟩
        · right
          rw [HL.out] at h
          refine ⟨?_, h⟩
          rw [hrt, hroot, HL.out, show n - 1 = k by omega]
        · exact .inl h
      rw [← hx] at c1 hfx HCK
      have HX := Lib.hid hx
      have hxv := fit_lv hfx.out
      have i1 : (k : Int) < (n : Int) := by omega
      have i0 : (0 : Int) ≤ (k : Int) := by omega
      clear hx hpar hrt hroot
      have q0 : True := trivial
      have hgr : g < wr.drew.heap.size := Nat.lt_of_lt_of_le hgw hbw.size
      have hbr : b < wr.drew.heap.size := Nat.lt_of_lt_of_le hb hbw.size
      rcases hpar2 with hp | ⟨hp, hkn⟩
      · have t1 : decide (rt < x.lv) = false := decide_eq_false (by omega)
        have t2 : (x.lv == rt) = false := beq_eq_false_iff_ne.2 (by omega)
        go_wp2_with fail
        refine wp_region_noPanic ?_
        refine wp_region_held (S := fun w' => w'.cell? ⟨g, 0, none⟩ = some (.slice (some ⟨b, off, none⟩) n c) ∧ w'.cell? ⟨b, off + k * 5, none⟩ = some (.int .i64 x.lv)) (by kernel_rfl) ?_
        have hS0 : wr.drew.cell? ⟨g, 0, none⟩ = some (.slice (some ⟨b, off, none⟩) n c) ∧ wr.drew.cell? ⟨b, off + k * 5, none⟩ = some (.int .i64 x.lv) := ⟨cq, c1⟩
        change wpAnyH _ _ _ _ _ _ _ _ wr.drew
        refine wpAnyH_take (i := 0) (v := ?_) rfl (by kernel_rfl) (by kernel_rfl) (by kernel_rfl) (fun _ _ _ h => h) (Or.inl ⟨by rfl, ?_⟩) hS0 ?_
        rotate_left
        · rintro w' ⟨s1, s2⟩
          go_simp
          first | done | with_reducible rfl | rfl
        simp only [Act.put, List.getElem_toArray, List.getElem_cons_succ, List.getElem_cons_zero, List.setIfInBounds_toArray, List.set_cons_zero, List.set_cons_succ]
        refine wpAnyH_take (i := 1) (v := ?_) rfl (by kernel_rfl) (by kernel_rfl) (by kernel_rfl) (fun _ _ _ h => h) (Or.inl ⟨by rfl, ?_⟩) hS0 ?_
        rotate_left
        · rintro w' ⟨s1, s2⟩
          go_simp
          first | done | with_reducible rfl | rfl
        simp only [Act.put, List.getElem_toArray, List.getElem_cons_succ, List.getElem_cons_zero, List.setIfInBounds_toArray, List.set_cons_zero, List.set_cons_succ]
        refine wpAnyH_take (i := 2) (v := ?_) rfl (by kernel_rfl) (by kernel_rfl) (by kernel_rfl) (fun _ _ _ h => h) (Or.inl ⟨by rfl, ?_⟩) hS0 ?_
        rotate_left
        · rintro w' ⟨s1, s2⟩
          go_simp
          first | done | with_reducible rfl | rfl
        simp only [Act.put, List.getElem_toArray, List.getElem_cons_succ, List.getElem_cons_zero, List.setIfInBounds_toArray, List.set_cons_zero, List.set_cons_succ]
        refine wpAnyH_take (i := 3) (v := ?_) rfl (by kernel_rfl) (by kernel_rfl) (by kernel_rfl) (fun _ _ _ h => h) (Or.inl ⟨by rfl, ?_⟩) hS0 ?_
        rotate_left
        · rintro w' ⟨s1, s2⟩
          go_simp
          first | done | with_reducible rfl | rfl
        simp only [Act.put, List.getElem_toArray, List.getElem_cons_succ, List.getElem_cons_zero, List.setIfInBounds_toArray, List.set_cons_zero, List.set_cons_succ]
        refine wpAnyH_take (i := 4) (v := ?_) rfl (by kernel_rfl) (by kernel_rfl) (by kernel_rfl) (fun _ _ _ h => h) (Or.inl ⟨by rfl, ?_⟩) hS0 ?_
        rotate_left
        · rintro w' ⟨s1, s2⟩
          go_simp
          first | done | with_reducible rfl | rfl
        simp only [Act.put, List.getElem_toArray, List.getElem_cons_succ, List.getElem_cons_zero, List.setIfInBounds_toArray, List.set_cons_zero, List.set_cons_succ]
        refine wpAnyH_take (i := 5) (v := ?_) rfl (by kernel_rfl) (by kernel_rfl) (by kernel_rfl) (fun _ _ _ h => h) (Or.inl ⟨by rfl, ?_⟩) hS0 ?_
        rotate_left
        · rintro w' ⟨s1, s2⟩
          go_simp
          first | done | with_reducible rfl | rfl
        simp only [Act.put, List.getElem_toArray, List.getElem_cons_succ, List.getElem_cons_zero, List.setIfInBounds_toArray, List.set_cons_zero, List.set_cons_succ]
        refine wpAnyH_ready (rs := [6]) (by kernel_rfl) (by simp) (AllReadyH.cons rfl (fun K hK => ?_) AllReadyH.nil)
        go_simp
        refine (nlevel_any _ _ n l _ HNr.out.drew HL.out).mono ?_
        rintro e w3 ⟨rfl, b3⟩
        dsimp only
        rw [← HRT.out]
        have y1 := (b3.cell (p := ⟨g, 0, none⟩) hgr).trans cq
        have y2 := (b3.cell (p := ⟨b, off + k * 5, none⟩) hbr).trans c1
        have B3 := Lib.hid b3
        clear b3
        refine hK.out _ _ ⟨y1, y2⟩ (fun hS1 => ?_)
        clear hK K
        refine wpAnyH_take (i := 7) (v := ?_) rfl (by kernel_rfl) (by kernel_rfl) (by kernel_rfl) (fun _ _ _ h => h) (Or.inl ⟨by rfl, ?_⟩) hS1 ?_
        rotate_left
        · rintro w' ⟨s1, s2⟩
          go_simp
          first | done | with_reducible rfl | rfl
        simp only [Act.put, List.getElem_toArray, List.getElem_cons_succ, List.getElem_cons_zero, List.setIfInBounds_toArray, List.set_cons_zero, List.set_cons_succ]
        refine wpAnyH_take (i := 8) (v := ?_) rfl (by kernel_rfl) (by kernel_rfl) (by kernel_rfl) (fun _ _ _ h => h) (Or.inl ⟨by rfl, ?_⟩) hS1 ?_
        rotate_left
        · rintro w' ⟨s1, s2⟩
          go_simp
          first | done | with_reducible rfl | rfl
        simp only [Act.put, List.getElem_toArray, List.getElem_cons_succ, List.getElem_cons_zero, List.setIfInBounds_toArray, List.set_cons_zero, List.set_cons_succ]
        refine wpAnyH_take (i := 9) (v := ?_) rfl (by kernel_rfl) (by kernel_rfl) (by kernel_rfl) (fun _ _ _ h => h) (Or.inl ⟨by rfl, ?_⟩) hS1 ?_
        rotate_left
        · rintro w' ⟨s1, s2⟩
          go_simp
          first | done | with_reducible rfl | rfl
        simp only [Act.put, List.getElem_toArray, List.getElem_cons_succ, List.getElem_cons_zero, List.setIfInBounds_toArray, List.set_cons_zero, List.set_cons_succ]
        refine wpAnyH_take (i := 10) (v := ?_) rfl (by kernel_rfl) (by kernel_rfl) (by kernel_rfl) (fun _ _ _ h => h) (Or.inl ⟨by rfl, ?_⟩) hS1 ?_
        rotate_left
        · rintro w' ⟨s1, s2⟩
          go_simp
          first | done | with_reducible rfl | rfl
        simp only [Act.put, List.getElem_toArray, List.getElem_cons_succ, List.getElem_cons_zero, List.setIfInBounds_toArray, List.set_cons_zero, List.set_cons_succ]
        refine wpAnyH_take (i := 11) (v := ?_) rfl (by kernel_rfl) (by kernel_rfl) (by kernel_rfl) (fun _ _ _ h => h) (Or.inl ⟨by rfl, ?_⟩) hS1 ?_
        rotate_left
        · rintro w' ⟨s1, s2⟩
          go_simp
          first | done | with_reducible rfl | rfl
        simp only [Act.put, List.getElem_toArray, List.getElem_cons_succ, List.getElem_cons_zero, List.setIfInBounds_toArray, List.set_cons_zero, List.set_cons_succ]
        refine wpAnyH_take (i := 12) (v := ?_) rfl (by kernel_rfl) (by kernel_rfl) (by kernel_rfl) (fun _ _ _ h => h) (Or.inl ⟨by rfl, ?_⟩) hS1 ?_
        rotate_left
        · rintro w' ⟨s1, s2⟩
          go_simp
          first | done | with_reducible rfl | rfl
        simp only [Act.put, List.getElem_toArray, List.getElem_cons_succ, List.getElem_cons_zero, List.setIfInBounds_toArray, List.set_cons_zero, List.set_cons_succ]
        refine wpAnyH_take (i := 13) (v := ?_) rfl (by kernel_rfl) (by kernel_rfl) (by kernel_rfl) (fun _ _ _ h => h) (Or.inl ⟨by rfl, ?_⟩) hS1 ?_
        rotate_left
        · rintro w' ⟨s1, s2⟩
          go_simp
          first | done | with_reducible rfl | rfl
        simp only [Act.put, List.getElem_toArray, List.getElem_cons_succ, List.getElem_cons_zero, List.setIfInBounds_toArray, List.set_cons_zero, List.set_cons_succ]
        refine wpAnyH_take (i := 14) (v := ?_) rfl (by kernel_rfl) (by kernel_rfl) (by kernel_rfl) (fun _ _ _ h => h) (Or.inl ⟨by rfl, ?_⟩) hS1 ?_
        rotate_left
        · rintro w' ⟨s1, s2⟩
          go_simp
          first | done | with_reducible rfl | rfl
        simp only [Act.put, List.getElem_toArray, List.getElem_cons_succ, List.getElem_cons_zero, List.setIfInBounds_toArray, List.set_cons_zero, List.set_cons_succ]
        refine wpAnyH_ready (rs := [15]) (by kernel_rfl) (by simp) (AllReadyH.cons rfl (fun K hK => ?_) AllReadyH.nil)
        go_simp
        refine (nlevel_any _ _ n l _ (HNr.out.drew.below B3.out) HL.out).mono ?_
        rintro e w4 ⟨rfl, b4⟩
        dsimp only
        rw [← HRT.out]
        have y3 := (b4.cell (p := ⟨g, 0, none⟩) (Nat.lt_of_lt_of_le hgr B3.out.size)).trans y1
        have y4 := (b4.cell (p := ⟨b, off + k * 5, none⟩) (Nat.lt_of_lt_of_le hbr B3.out.size)).trans y2
        have B4 := Lib.hid b4
        clear b4
        refine hK.out _ _ ⟨y3, y4⟩ (fun hS2 => ?_)
        clear hK K
        refine wpAnyH_take (i := 16) (v := ?_) rfl (by kernel_rfl) (by kernel_rfl) (by kernel_rfl) (fun _ _ _ h => h) (Or.inl ⟨by rfl, ?_⟩) hS2 ?_
        rotate_left
        · rintro w' ⟨s1, s2⟩
          go_simp
          first | done | with_reducible rfl | rfl
        simp only [Act.put, List.getElem_toArray, List.getElem_cons_succ, List.getElem_cons_zero, List.setIfInBounds_toArray, List.set_cons_zero, List.set_cons_succ]
        refine wpAnyH_take (i := 17) (v := ?_) rfl (by kernel_rfl) (by kernel_rfl) (by kernel_rfl) (fun _ _ _ h => h) (Or.inl ⟨by rfl, ?_⟩) hS2 ?_
        rotate_left
        · rintro w' ⟨s1, s2⟩
          go_simp
          first | done | with_reducible rfl | rfl
        simp only [Act.put, List.getElem_toArray, List.getElem_cons_succ, List.getElem_cons_zero, List.setIfInBounds_toArray, List.set_cons_zero, List.set_cons_succ]
        refine wpAnyH_take (i := 18) (v := undef) rfl (by kernel_rfl) (by kernel_rfl) (by kernel_rfl) (fun _ _ _ h => h) (Or.inr ⟨by rfl, rfl⟩) hS2 ?_
        simp only [Act.put, List.getElem_toArray, List.getElem_cons_succ, List.getElem_cons_zero, List.setIfInBounds_toArray, List.set_cons_zero, List.set_cons_succ]
        refine wpAnyH_take (i := 19) (v := undef) rfl (by kernel_rfl) (by kernel_rfl) (by kernel_rfl) (fun _ _ _ h => h) (Or.inr ⟨by rfl, rfl⟩) hS2 ?_
        simp only [Act.put, List.getElem_toArray, List.getElem_cons_succ, List.getElem_cons_zero, List.setIfInBounds_toArray, List.set_cons_zero, List.set_cons_succ]
        refine wpAnyH_take (i := 20) (v := undef) rfl (by kernel_rfl) (by kernel_rfl) (by kernel_rfl) (fun _ _ _ h => h) (Or.inr ⟨by rfl, rfl⟩) hS2 ?_
        simp only [Act.put, List.getElem_toArray, List.getElem_cons_succ, List.getElem_cons_zero, List.setIfInBounds_toArray, List.set_cons_zero, List.set_cons_succ]
        refine wpAnyH_take (i := 21) (v := undef) rfl (by kernel_rfl) (by kernel_rfl) (by kernel_rfl) (fun _ _ _ h => h) (Or.inr ⟨by rfl, rfl⟩) hS2 ?_
        simp only [Act.put, List.getElem_toArray, List.getElem_cons_succ, List.getElem_cons_zero, List.setIfInBounds_toArray, List.set_cons_zero, List.set_cons_succ]
        refine wpAnyH_take (i := 22) (v := undef) rfl (by kernel_rfl) (by kernel_rfl) (by kernel_rfl) (fun _ _ _ h => h) (Or.inr ⟨by rfl, rfl⟩) hS2 ?_
        simp only [Act.put, List.getElem_toArray, List.getElem_cons_succ, List.getElem_cons_zero, List.setIfInBounds_toArray, List.set_cons_zero, List.set_cons_succ]
        refine wpAnyH_take (i := 23) (v := ?_) rfl (by kernel_rfl) (by kernel_rfl) (by kernel_rfl) (fun _ _ _ h => h) (Or.inl ⟨by rfl, ?_⟩) hS2 ?_
        rotate_left
        · rintro w' ⟨s1, s2⟩
          go_simp
          first | done | with_reducible rfl | rfl
        simp only [Act.put, List.getElem_toArray, List.getElem_cons_succ, List.getElem_cons_zero, List.setIfInBounds_toArray, List.set_cons_zero, List.set_cons_succ]
        refine wpAnyH_take (i := 24) (v := ?_) rfl (by kernel_rfl) (by kernel_rfl) (by kernel_rfl) (fun _ _ _ h => h) (Or.inl ⟨by rfl, ?_⟩) hS2 ?_
        rotate_left
        · rintro w' ⟨s1, s2⟩
          go_simp
          first | done | with_reducible rfl | rfl
        simp only [Act.put, List.getElem_toArray, List.getElem_cons_succ, List.getElem_cons_zero, List.setIfInBounds_toArray, List.set_cons_zero, List.set_cons_succ]
        refine wpAnyH_done (by kernel_rfl) ?_ _
        refine NoPanic.normal ?_
        have hsz3 := B4.out.size
        have WB := Lib.hid (show Below w2.heap.size w2 w4 from (hbw.drew.trans (B3.out.mono hbw.size)).trans (B4.out.mono (Nat.le_trans hbw.size B3.out.size)))
        have HCK2 := Lib.hid (show NdAt w4 b (off + k * 5) x from (HCK.out.drew.below (B3.out.block b hbr)).below (B4.out.block b (Nat.lt_of_lt_of_le hbr B3.out.size)))
        have HC2 := Lib.hid (show ∀ i, i < l.length → NdAt w4 b (off + i * 5) (at_ l i) from fun i hi => (HC.out i hi).below (WB.out.block b hb))
        have c1w := HCK2.out.1
        clear c1 cq
        go_wp2_with fail
        go_loopw [5, 6] (fun i z wq => ∃ (q m : Nat) (v : Value), wq = w4.drewN m ∧ q ≤ 4 ∧ i = .int .i64 q ∧ z = v) (fun i _ _ => 4 - (intOf i).toNat)
        case atStart => exact ⟨0, 0, _, rfl, by omega, rfl, rfl⟩
        case round =>
          obtain ⟨q, m, v, rfl, hq4, rfl, rfl⟩ := hrel
          by_cases hqlt : q < 4
          · by_cases hlv : 1 < x.lv
            · have hy := HCK2.out.kid hqlt
              have hfk := fit_kid hfx.out hqlt
              obtain ⟨y, hye⟩ : ∃ y, y = x.kid q := ⟨_, rfl⟩
              rw [← hye] at hy hfk
              have s1 : decide (1 < x.lv) = true := decide_eq_true hlv
              clear hye
              rcases kid_up (by omega) hfk with hy0 | ⟨p, rfl, hp3, hpl⟩
              · have s2 : decide (y < 0) = false := decide_eq_false (by omega)
                have s3 : decide ((k : Int) < y) = false := decide_eq_false (by omega)
                have s4 : decide (0 < y) = false := decide_eq_false (by omega)
                clear hfk hy0
                go_wp2_with fail
                go_quiet (fail)
                go_wp2_with fail
                go_roundw
                case rel => exact ⟨q + 1, _, _, rfl, by omega, by go_num, rfl⟩
                case measure => simp [intOf]; omega
              · have hpk : p < k := Nat.lt_of_lt_of_le hp3 (List.length_take_le _ _)
                have cp := (HC2.out p (by rw [HL.out]; omega)).1
                rw [at_take hpk] at hpl
                rw [hpl] at cp
                have s2 : decide ((p : Int) + 1 < 0) = false := decide_eq_false (by omega)
                have s3 : decide ((k : Int) < (p : Int) + 1) = false := decide_eq_false (by omega)
                have s4 : decide ((0 : Int) < (p : Int) + 1) = true := decide_eq_true (by omega)
                have e1 : IntKind.i64.wrap ((p : Int) + 1 - 1) = (p : Int) := by rw [show (p : Int) + 1 - 1 = (p : Int) by omega]; exact IntWalk.i64_in _ (by omega)
                have e2 : IntKind.i64.wrap (x.lv - 1) = x.lv - 1 := IntWalk.i64_in _ (by omega)
                have i3 : (p : Int) < (n : Int) := by omega
                have i4 : (0 : Int) ≤ (p : Int) := by omega
                clear hfk hpl
                go_wp2_with fail
                go_quiet (fail)
                go_wp2_with fail
                go_roundw
                case rel => exact ⟨q + 1, _, _, rfl, by omega, by go_num, rfl⟩
                case measure => simp [intOf]; omega
            · have s1 : decide (1 < x.lv) = false := decide_eq_false hlv
              go_wp2_with fail
              go_roundw
              case rel => exact ⟨k + 1, _, _, by omega, by go_num, rfl, rfl, below_drewN' WB.out _⟩
              case measure => simp [intOf]; omega
          · go_wp2_with fail
            go_roundw
            case rel => exact ⟨k + 1, _, _, by omega, by go_num, rfl, rfl, below_drewN' WB.out _⟩
            case measure => simp [intOf]; omega
      · have t1 : decide (rt < x.lv) = false := decide_eq_false (by omega)
        have t2 : (x.lv == rt) = true := by rw [beq_iff_eq]; exact hp
        have t3 : ((k : Int) != (n : Int) - 1) = false := by rw [show (n : Int) - 1 = (k : Int) by omega]; simp
        have e0 : IntKind.i64.wrap ((n : Int) - 1) = (n : Int) - 1 := IntWalk.i64_in _ (by omega)
        have HP := Lib.hid hp
        have HKN := Lib.hid hkn
        clear hp hkn
        go_wp2_with fail
        go_region_held3 (fun w' => w'.cell? ⟨g, 0, none⟩ = some (.slice (some ⟨b, off, none⟩) n c) ∧ w'.cell? ⟨b, off + k * 5, none⟩ = some (.int .i64 x.lv))
          (first | go_keep | fail)
          (first
            | (have _t := q0; go_at_call 17; clear _t; refine (nlevel_any _ _ n l _ HNr.out.drew HL.out).mono ?_; rintro e w3 ⟨rfl, b3⟩; rw [← HRT.out]; have y1 := (b3.cell (p := ⟨g, 0, none⟩) hgr).trans cq; have y2 := (b3.cell (p := ⟨b, off + k * 5, none⟩) hbr).trans c1; have B3 := Lib.hid b3; clear b3; have q1 := q0; clear q0)
            | (have _t := q1; go_at_call 17; clear _t; refine (nlevel_any _ _ n l _ (HNr.out.drew.below B3.out) HL.out).mono ?_; rintro e w4 ⟨rfl, b4⟩; rw [← HRT.out]; have y3 := (b4.cell (p := ⟨g, 0, none⟩) (Nat.lt_of_lt_of_le hgr B3.out.size)).trans y1; have y4 := (b4.cell (p := ⟨b, off + k * 5, none⟩) (Nat.lt_of_lt_of_le hbr B3.out.size)).trans y2; have B4 := Lib.hid b4; clear b4; have q2 := q1; clear q1))
        have hsz3 := B4.out.size
        have WB := Lib.hid (show Below w2.heap.size w2 w4 from (hbw.drew.trans (B3.out.mono hbw.size)).trans (B4.out.mono (Nat.le_trans hbw.size B3.out.size)))
        have HCK2 := Lib.hid (show NdAt w4 b (off + k * 5) x from (HCK.out.drew.below (B3.out.block b hbr)).below (B4.out.block b (Nat.lt_of_lt_of_le hbr B3.out.size)))
        have HC2 := Lib.hid (show ∀ i, i < l.length → NdAt w4 b (off + i * 5) (at_ l i) from fun i hi => (HC.out i hi).below (WB.out.block b hb))
        have c1w := HCK2.out.1
        clear c1 cq
        go_wp2_with fail
        go_loopw [5, 6] (fun i z wq => ∃ (q m : Nat) (v : Value), wq = w4.drewN m ∧ q ≤ 4 ∧ i = .int .i64 q ∧ z = v) (fun i _ _ => 4 - (intOf i).toNat)
        case atStart => exact ⟨0, 0, _, rfl, by omega, rfl, rfl⟩
        case round =>
          obtain ⟨q, m, v, rfl, hq4, rfl, rfl⟩ := hrel
          by_cases hqlt : q < 4
          · by_cases hlv : 1 < x.lv
            · have hy := HCK2.out.kid hqlt
              have hfk := fit_kid hfx.out hqlt
              obtain ⟨y, hye⟩ : ∃ y, y = x.kid q := ⟨_, rfl⟩
              rw [← hye] at hy hfk
              have s1 : decide (1 < x.lv) = true := decide_eq_true hlv
              clear hye
              rcases kid_up (by omega) hfk with hy0 | ⟨p, rfl, hp3, hpl⟩
              · have s2 : decide (y < 0) = false := decide_eq_false (by omega)
                have s3 : decide ((k : Int) < y) = false := decide_eq_false (by omega)
                have s4 : decide (0 < y) = false := decide_eq_false (by omega)
                clear hfk hy0
                go_wp2_with fail
                go_quiet (fail)
                go_wp2_with fail
                go_roundw
                case rel => exact ⟨q + 1, _, _, rfl, by omega, by go_num, rfl⟩
                case measure => simp [intOf]; omega
              · have hpk : p < k := Nat.lt_of_lt_of_le hp3 (List.length_take_le _ _)
                have cp := (HC2.out p (by rw [HL.out]; omega)).1
                rw [at_take hpk] at hpl
                rw [hpl] at cp
                have s2 : decide ((p : Int) + 1 < 0) = false := decide_eq_false (by omega)
                have s3 : decide ((k : Int) < (p : Int) + 1) = false := decide_eq_false (by omega)
                have s4 : decide ((0 : Int) < (p : Int) + 1) = true := decide_eq_true (by omega)
                have e1 : IntKind.i64.wrap ((p : Int) + 1 - 1) = (p : Int) := by rw [show (p : Int) + 1 - 1 = (p : Int) by omega]; exact IntWalk.i64_in _ (by omega)
                have e2 : IntKind.i64.wrap (x.lv - 1) = x.lv - 1 := IntWalk.i64_in _ (by omega)
                have i3 : (p : Int) < (n : Int) := by omega
                have i4 : (0 : Int) ≤ (p : Int) := by omega
                clear hfk hpl
                go_wp2_with fail
                go_quiet (fail)
                go_wp2_with fail
                go_roundw
                case rel => exact ⟨q + 1, _, _, rfl, by omega, by go_num, rfl⟩
                case measure => simp [intOf]; omega
            · have s1 : decide (1 < x.lv) = false := decide_eq_false hlv
              go_wp2_with fail
              go_roundw
              case rel => exact ⟨k + 1, _, _, by omega, by go_num, rfl, rfl, below_drewN' WB.out _⟩
              case measure => simp [intOf]; omega
          · go_wp2_with fail
            go_roundw
            case rel => exact ⟨k + 1, _, _, by omega, by go_num, rfl, rfl, below_drewN' WB.out _⟩
            case measure => simp [intOf]; omega
    · go_wp2_with (first
        | (go_at_call 7; go_loud (refine (loose_at _ _ n l _ (HN2.out.below hbw) HL.out).mono ?_; rintro e w3 ⟨rfl, b3⟩; have y1 := (b3.cell (p := ⟨g, 0, none⟩) (Nat.lt_of_lt_of_le hgw hbw.size)).trans cq; have B3 := Lib.hid b3; clear b3; rw [HLL.out]))
        | (go_at_call 11; go_loud (refine (nsame_any _ _ _ _ n n l l _ ((HN2.out.below hbw).below B3.out) ((HN2.out.below hbw).below B3.out) HL.out HL.out).mono ?_; rintro e w4 ⟨rfl, b4⟩; have B4 := Lib.hid b4; clear b4; rw [decide_eq_true (rfl : l = l)])))
      go_ret
      have z1 := HB.out.trans (hbw.mono HB.out.size)
      have z2 := z1.trans (B3.out.mono z1.size)
      exact ⟨rfl, z2.trans (B4.out.mono z2.size)⟩
theorem nodelevels_any (A : Option Addr) (c : Nat) (l : List Nd) (w : World) (h : Ns w A c l) :
    Calls Try.prog 5 #[.slice A l.length c] w fun e w' => e = .returned (.bool true) ∧ Below w.heap.size w w' := by
  have hc := h.cap
  by_cases h6 : 60 < l.length
  · exact nodelevels_great A c _ w h6 (by omega)
  · cases hq : quadB l with
    | false => exact nodelevels_not A c _ l w h rfl (by omega) hq
    | true => exact nodelevels_main A c _ l w h rfl (by omega) hq
end Go.Proofs.Ytilhnnbmplnnpaa
