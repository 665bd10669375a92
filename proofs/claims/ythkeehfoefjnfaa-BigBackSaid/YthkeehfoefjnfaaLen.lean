/-
  limb.Len: how many bits.
-/
import Derived.Test.YthkeehfoefjnfaaTrim
import Derived.Test.YthkeehfoefjnfaaLen32
namespace Go.Proofs.Ythkeehfoefjnfaa
set_option linter.unusedVariables false
set_option linter.unusedSimpArgs false
open Go.RowKit Go.Shelf Num
attribute [local go_sem] Oper.semAt_some

def lenI (B0 : Nat) (xs : List Nat) (w : World) (pre : List (Item xs.length)) (W : World) : Prop :=
  ((∀ y ∈ pre, y.1.2 = 0) ∧ W.cell? ⟨B0, 0, none⟩ = some (.int .i64 0) ∧ W.frozen? ⟨B0, 0, none⟩ = false) ∧ Below w.heap.size w W
def lenX (B0 : Nat) (xs : List Nat) (w : World) (cd : Code) (pre : List (Item xs.length)) (W : World) : Prop :=
  (cd = .ret ∧ ∃ p x, pre = p ++ [x] ∧ (∀ y ∈ p, y.1.2 = 0) ∧ x.1.2 ≠ 0 ∧ W.cell? ⟨B0, 0, none⟩ = some (.int .i64 ((32 * x.1.1 + blen x.1.2 : Nat) : Int))) ∧ Below w.heap.size w W

theorem blen_lt32 {x : Nat} (h : x < 4294967296) : blen x ≤ 32 := by
  by_cases h0 : x = 0
  · subst h0; decide
  · have a := blen_ge h0
    rcases Nat.lt_or_ge 32 (blen x) with hb | hb
    · have : 2 ^ 32 ≤ 2 ^ (blen x - 1) := Nat.pow_le_pow_right (by decide) (by omega)
      omega
    · exact hb

set_option maxRecDepth 100000 in
set_option maxHeartbeats 2000000 in
theorem len_any (A : Option Addr) (c : Nat) (xs : List Nat) (w : World) (h : Us w A c xs) (hl : xs.length ≤ 1000000) :
    Calls Try.prog 22 #[.slice A xs.length c] w fun e w' => e = .returned (.int .i64 (blen (val xs) : Nat)) ∧ Below w.heap.size w w' := by
  refine (callsIn_wide (n := 4)).1 ?_
  have hd := h.1
  have HH := Lib.hid h
  clear h
  refine callsIn_of_wp_marks Try.func22 rfl trivial ?_ rfl
  simp only [Try.ntmps22, List.size_toArray, List.length_cons, List.length_nil, Nat.reduceAdd, Nat.reduceSub, Array.replicate_succ, Array.replicate_zero, List.push_toArray, List.append_toArray, List.nil_append, List.cons_append]
  gi_wp2_with (refine ⟨trivial, ?_⟩; gi_at_call 66; refine (callsIn_wide.2 (back_any _ _ _ _)).mono ?_; rintro e w' ⟨rfl, rfl⟩)
  have c0 := cell_new_l w (.int .i64 0) 3
  have c1 := cell_new_l (w.alloc (.cells #[.int .i64 0] 3)) (.slice A xs.length c) 22
  simp only [World.size_alloc] at c1
  have hB0 : Below w.heap.size w ((w.alloc (.cells #[.int .i64 0] 3)).alloc (.cells #[.slice A xs.length c] 22)) := ((Below.refl _ w).alloc (Nat.le_refl _) _).alloc (by simp) _
  refine wpIn_rangeFunc_ownF rfl (by decide) (gf := 78) (lb := #[.pointer (some ⟨w.heap.size + 1, 0, none⟩)]) rfl trivial (enters_of Try.func78 (by kernel_rfl) rfl)
    (back_stops Fence.wide 3 trivial rfl (by decide) (w.heap.size + 1) w.heap.size c A xs hd hl w _ (by simp) (by simp; omega) c1.1 HH.out rfl hB0) BackK.trans (BackK.b (by simp; omega) (by simp)) (Below.refl _ _) (fun _ => rfl)
    (lenI w.heap.size xs w) (lenX w.heap.size xs w)
    (OwnFrom.and (Own.from (fun s A B row hs hg hr => ⟨hs.1, cell_kept hs.2.1 hg hr, (frozen_kept hs.2.1 hg hr).trans hs.2.2⟩) _) (ownFrom_below (Nat.le_refl _) (by simp; omega)))
    (fun cd => OwnFrom.and (Own.from (fun s A B row hs hg hr => ⟨hs.1, by obtain ⟨p, x, e1, e2, e3, e4⟩ := hs.2; exact ⟨p, x, e1, e2, e3, cell_kept e4 hg hr⟩⟩) _) (ownFrom_below (Nat.le_refl _) (by simp; omega)))
    ⟨⟨by simp, cell_alloc_l _ c0.1, frozen_alloc_l _ c0.1 c0.2⟩, hB0⟩
    (fun x => { tmps := #[.slice A xs.length c, undef, .pointer (some ⟨w.heap.size, 0, none⟩), .int .i64 (x.1.1 : Int), .int .u32 (x.1.2 : Int), .slice A xs.length c, .func (.func 78) #[] #[.pointer (some ⟨w.heap.size + 1, 0, none⟩)], .int .i64 (x.1.1 : Int), .int .u32 (x.1.2 : Int), undef, undef, undef, undef, undef, undef, undef], defers := [] }) ?assign ?body ?done ?stop
  case assign =>
    intro l x W K hK
    unfold itemE
    gi_wp2
    exact hK
  case body =>
    rintro l pre x W ⟨⟨hz, hcr, hfr⟩, hB⟩ hpre
    obtain ⟨⟨i, y⟩, hxi⟩ := x
    have hi' : i < xs.length := hxi.1 (by omega)
    have hy : y < 4294967296 := hxi.2
    dsimp only
    have HZ := Lib.hid hz
    have HB := Lib.hid hB
    clear hz hB c0 c1 hB0
    by_cases hy0 : y = 0
    · subst hy0
      gi_wp2
      refine ⟨KeepsOthers.refl _, BackK.refl _ _ _, ⟨fun z hz => ?_, hcr, hfr⟩, HB.out⟩
      rcases List.mem_append.1 hz with hz | hz
      · exact HZ.out z hz
      · simp only [List.mem_singleton] at hz; subst hz; rfl
    · have t1 : ((y : Int) != 0) = true := by rw [bne_iff_ne]; omega
      have hbl := blen_lt32 hy
      gi_wp2_with (refine ⟨trivial, ?_⟩; gi_at_call 69; refine (CallsIn.inRound l (callsIn_wide.2 (len32_any y _ hy))).mono ?_; rintro e w' ⟨rfl, rfl⟩)
      refine ⟨KeepsOthers.setCell _ _ _, ⟨rfl, pre, _, rfl, HZ.out, hy0, ?_⟩, HB.out.setCell (p := ⟨w.heap.size, 0, none⟩) (by simp) _⟩
      rw [show ((32 * i + blen y : Nat) : Int) = (i : Int) * 32 + (blen y : Int) from by omega]
      exact World.cell?_setCell_same' _ _ _ (by rw [hcr]; rfl)
  case done =>
    rintro D ys W hD rfl ⟨⟨hz, hcr, hfr⟩, hB⟩ hK
    have hv := trim_none hz
    have HZ := Lib.hid hz
    have HB := Lib.hid hB
    have HV := Lib.hid hv
    clear hz hB hv c0 c1 hB0
    gi_wp2
    have hK' := (KeepsOthers.setCell W ⟨w.heap.size, 0, none⟩ (.int .i64 0)).same D _ hK rfl
    refine ⟨by simp, .inl ⟨_, _, rfl, run_takeDeferred hK', ?_⟩⟩
    have hc5 := cell_kept (World.cell?_setCell_same' W ⟨w.heap.size, 0, none⟩ (.int .i64 0) (by rw [hcr]; rfl)) (grownBy_putObj' _ D (.deferred none)) (fun r e => by cases e; exact ⟨_, hK', rfl⟩)
    refine ⟨.int .i64 0, ?_, by rw [HV.out]; rfl, (HB.out.setCell (p := ⟨w.heap.size, 0, none⟩) (by simp) _).trans (belowK_b (w := w) (Nat.le_refl _) _ D _ _ (by simp at hD; omega) hK' rfl rfl)⟩
    simp [results, Try.f22, go_sem, hc5]
  case stop =>
    rintro D cd pre W hD ⟨k, hk, hpre⟩ ⟨⟨rfl, p, x, e1, e2, e3, hcr⟩, hB⟩ hK
    obtain ⟨g1, g2, g3, g4⟩ := trim_some hk (e1.symm.trans hpre) e2 e3
    have g5 := blen_val hd g1 g4 (by rw [← g2]; exact e3)
    rw [← g2] at g5
    have G5 := Lib.hid g5
    have HB := Lib.hid hB
    clear hB e1 e2 hpre c0 c1 hB0 g5 g2 g4
    gi_wp2
    refine ⟨by simp, .inl ⟨_, _, rfl, run_takeDeferred hK, ?_⟩⟩
    have hc5 := cell_kept hcr (grownBy_putObj' _ D (.deferred none)) (fun r e => by cases e; exact ⟨_, hK, rfl⟩)
    have hbw := HB.out.trans (belowK_b (w := w) (Nat.le_refl _) W D _ (.deferred none) (by simp at hD; omega) hK rfl rfl)
    refine ⟨.int .i64 ((32 * x.1.1 + blen x.1.2 : Nat) : Int), ?_, by rw [G5.out], hbw⟩
    simp [results, Try.f22, go_sem, hc5]

end Go.Proofs.Ythkeehfoefjnfaa
