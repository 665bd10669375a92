/-
  limb.Cmp: below, as, above.
-/
import Derived.Test.YthkeehfoefjnfaaTrim
import Derived.Test.YthkeehfoefjnfaaBits
import Derived.Deep.DeepCutAuto
import Derived.Deep.RegionWith
import Derived.Deep.RegionHeld3
namespace Go.Proofs.Ythkeehfoefjnfaa
set_option linter.unusedVariables false
set_option linter.unusedSimpArgs false
open Go.RowKit Go.Shelf Num
attribute [local go_sem] Oper.semAt_some

theorem World.cell?_drew_own (W : World) (a : Addr) : W.drew.cell? a = W.cell? a := rfl
def cmpI (B0 : Nat) (xs ys : List Nat) (w : World) (pre : List (Item xs.length)) (W : World) : Prop :=
  ((∀ y ∈ pre, y.1.2 = ys[y.1.1]?.getD 0)) ∧ Below w.heap.size w W
def cmpX (B1 B0 : Nat) (xs ys : List Nat) (w : World) (cd : Code) (pre : List (Item xs.length)) (W : World) : Prop :=
  (cd = .ret ∧ ∃ p x, pre = p ++ [x] ∧ (∀ y ∈ p, y.1.2 = ys[y.1.1]?.getD 0) ∧ x.1.2 ≠ ys[x.1.1]?.getD 0 ∧ W.cell? ⟨B1, 0, none⟩ = some (.int .i64 (cmpN x.1.2 (ys[x.1.1]?.getD 0)))) ∧ Below B0 w W

theorem cmp_none {xs ys : List Nat} {hd : Dig xs} (h : ∀ y ∈ its xs hd xs.length, y.1.2 = ys[y.1.1]?.getD 0) : ∀ j, j < xs.length → xs[j]?.getD 0 = ys[j]?.getD 0 := by
  intro j hj
  have hm : it xs hd (xs.length - 1 - j) ∈ its xs hd xs.length := List.mem_map.2 ⟨_, List.mem_range.2 (by omega), rfl⟩
  have := h _ hm
  unfold it at this
  simp only [show xs.length - 1 - (xs.length - 1 - j) = j from by omega] at this
  exact this
theorem cmp_some {xs ys : List Nat} {hd : Dig xs} {k : Nat} {pre : List (Item xs.length)} {x : Item xs.length} (hk : k ≤ xs.length) (he : pre ++ [x] = its xs hd k) (hp : ∀ y ∈ pre, y.1.2 = ys[y.1.1]?.getD 0) :
    x.1.1 < xs.length ∧ x.1.2 = xs[x.1.1]?.getD 0 ∧ ∀ j, x.1.1 < j → j < xs.length → xs[j]?.getD 0 = ys[j]?.getD 0 := by
  cases k with
  | zero => simp [its] at he
  | succ k =>
    rw [its_succ] at he
    obtain ⟨e1, e2⟩ := List.append_inj' he rfl
    simp only [List.cons.injEq, and_true] at e2
    subst e1
    subst e2
    unfold it
    simp only
    refine ⟨by omega, trivial, fun j h1 h2 => ?_⟩
    have hm : it xs hd (xs.length - 1 - j) ∈ its xs hd k := List.mem_map.2 ⟨_, List.mem_range.2 (by omega), rfl⟩
    have := hp _ hm
    unfold it at this
    simp only [show xs.length - 1 - (xs.length - 1 - j) = j from by omega] at this
    exact this

/-- What stands behind 'a, b = trim(a), trim(b)'. -/
def CmpCut (B0 n m : Nat) (w : World) (s0 : Value) (wx : World) : Prop :=
  ∃ A c ra B d rb, s0 = .slice A ra.length c ∧ wx.cell? ⟨B0, 0, none⟩ = some (.slice B rb.length d) ∧ wx.cell? ⟨B0 + 1, 0, none⟩ = some (.int .i64 0) ∧ wx.frozen? ⟨B0 + 1, 0, none⟩ = false ∧
    Us wx A c ra ∧ Us wx B d rb ∧ Canon ra ∧ Canon rb ∧ val ra = n ∧ val rb = m ∧ ra.length ≤ 1000000 ∧ rb.length ≤ 1000000 ∧ Below B0 w wx

/-- A statement that ends as a statement does, or not at all. -/
def NormalOnly (Q : Exit → Act → World → Prop) : Exit → Act → World → Prop
  | .normal, a, w => Q .normal a w
  | _, _, _ => False
theorem wp_normalOnly {P : Program} {c : Code} {a : Act} {w : World} {Q : Exit → Act → World → Prop} (h : c.wp P (NormalOnly Q) a w) : c.wp P Q a w :=
  wp_mono h fun e _ _ hq => by cases e <;> first | exact hq | exact False.elim hq
/-- How memory stands within that statement: b's variable holds v still; the answer's lies behind it. -/
structure CmpSt (w W0 : World) (v : Value) (W : World) : Prop where
  size : W0.heap.size = w.heap.size + 2
  cell : W.cell? ⟨w.heap.size, 0, none⟩ = some v
  free : W.frozen? ⟨w.heap.size, 0, none⟩ = false
  cellR : W.cell? ⟨w.heap.size + 1, 0, none⟩ = some (.int .i64 0)
  freeR : W.frozen? ⟨w.heap.size + 1, 0, none⟩ = false
  b : Below W0.heap.size W0 W
  base : Below w.heap.size w W0
theorem CmpSt.next {w W0 W W1 : World} {v : Value} (h : CmpSt w W0 v W) (hb : Below W.heap.size W W1) : CmpSt w W0 v W1 :=
  have l0 := lt_of_cell h.cell
  have l1 := lt_of_cell h.cellR
  ⟨h.size, (hb.cell (p := ⟨w.heap.size, 0, none⟩) l0).trans h.cell, (hb.frozen (p := ⟨w.heap.size, 0, none⟩) l0).trans h.free, (hb.cell (p := ⟨w.heap.size + 1, 0, none⟩) l1).trans h.cellR, (hb.frozen (p := ⟨w.heap.size + 1, 0, none⟩) l1).trans h.freeR,
    h.b.trans (hb.mono h.b.size), h.base⟩

theorem cmp_end {w W0 w2 : World} {v : Value} {A B A1 A2 : Option Addr} {c d c1 c2 : Nat} {xs ys r1 r2 : List Nat} (h : Us w A c xs) (k : Us w B d ys) (st : CmpSt w W0 v w2)
    (h1 : (∀ W, Us W A c xs → Us W A1 c1 r1) ∧ Canon r1 ∧ val r1 = val xs ∧ r1.length ≤ xs.length) (h2 : (∀ W, Us W B d ys → Us W A2 c2 r2) ∧ Canon r2 ∧ val r2 = val ys ∧ r2.length ≤ ys.length)
    (hx : xs.length ≤ 1000000) (hy : ys.length ≤ 1000000) :
    CmpCut w.heap.size (val xs) (val ys) w (.slice A1 r1.length c1) (w2.setCell ⟨w.heap.size, 0, none⟩ (.slice A2 r2.length c2)) := by
  have hb : Below w.heap.size w (w2.setCell ⟨w.heap.size, 0, none⟩ (.slice A2 r2.length c2)) := (st.base.trans (st.b.mono st.base.size)).setCell (p := ⟨w.heap.size, 0, none⟩) (Nat.le_refl _) _
  refine ⟨A1, c1, r1, A2, c2, r2, rfl, World.cell?_setCell_same' _ _ _ (by rw [st.cell]; rfl), ?_, ?_, h1.1 _ (h.below hb), h2.1 _ (k.below hb), h1.2.1, h2.2.1, h1.2.2.1, h2.2.2.1, by omega, by omega, hb⟩
  · rw [World.cell?_setCell_other _ _ _ _ (by simp)]; exact st.cellR
  · rw [World.frozen?_setCell]; exact st.freeR

set_option maxRecDepth 100000 in
set_option maxHeartbeats 2000000 in
theorem cmp_any (A B : Option Addr) (c d : Nat) (xs ys : List Nat) (w : World) (h : Us w A c xs) (k : Us w B d ys) (hx : xs.length ≤ 1000000) (hy : ys.length ≤ 1000000) :
    Calls Try.prog 16 #[.slice A xs.length c, .slice B ys.length d] w fun e w' => e = .returned (.int .i64 (cmpN (val xs) (val ys))) ∧ Below w.heap.size w w' := by
  have H1 := Lib.hid h
  have H2 := Lib.hid k
  clear h k
  refine calls_of_wide Try.func16 rfl ?_
  simp only [Try.ntmps16, List.size_toArray, List.length_cons, List.length_nil, Nat.reduceAdd, Nat.reduceSub, Array.replicate_succ, Array.replicate_zero, List.push_toArray, List.append_toArray, List.nil_append, List.cons_append]
  go_upto_region 1 with fail
  go_cut [0] from 7 to 10 (fun s0 wx => CmpCut w.heap.size (val xs) (val ys) w s0 wx)
  case first =>
    have c0 := cell_new_l w (.slice B ys.length d) 22
    have c1 := cell_new_l (w.alloc (.cells #[.slice B ys.length d] 22)) (.int .i64 0) 3
    simp only [World.size_alloc] at c1
    obtain ⟨W0, hW0⟩ : ∃ W0, (w.alloc (.cells #[.slice B ys.length d] 22)).alloc (.cells #[.int .i64 0] 3) = W0 := ⟨_, rfl⟩
    have st : CmpSt w W0 (.slice B ys.length d) W0.drew := by
      rw [← hW0]
      refine ⟨by simp, cell_alloc_l _ c0.1, frozen_alloc_l _ c0.1 c0.2, c1.1, c1.2, ?_, (((Below.refl _ w).alloc (Nat.le_refl _) _).alloc (by simp) _)⟩
      exact below_drewN (Below.refl _ _) 1
    have uA := H1.out.below st.base
    have uB := H2.out.below st.base
    have cB := st.cell
    have fB := st.free
    rw [hW0]
    clear hW0 c0 c1
    have UA := Lib.hid uA
    have UB := Lib.hid uB
    clear uA uB
    refine wp_normalOnly ?_
    go_region_with (first
      | (go_at_call_of 60 (Value.slice A xs.length c); refine (trim_sub A c xs _ (UA.out.below (CmpSt.b (by assumption))) hx).mono ?_; rintro e w1 ⟨A1, c1, r1, rfl, u1, k1, v1, l1, b1⟩; have st1 := CmpSt.next (by assumption) b1; have cB1 := st1.cell; have fB1 := st1.free; have U1 := Lib.hid (And.intro u1 (And.intro k1 (And.intro v1 l1))); clear u1 k1 v1 l1)
      | (go_at_call_of 60 (Value.slice B ys.length d); refine (trim_sub B d ys _ (UB.out.below (CmpSt.b (by assumption))) hy).mono ?_; rintro e w2 ⟨A2, c2, r2, rfl, u2, k2, v2, l2, b2⟩; have st2 := CmpSt.next (by assumption) b2; have cB2 := st2.cell; have fB2 := st2.free; have U2 := Lib.hid (And.intro u2 (And.intro k2 (And.intro v2 l2))); clear u2 k2 v2 l2))
    all_goals
      unfold NormalOnly
      go_wp2_with fail
      go_meet
      exact cmp_end H1.out H2.out st2 U1.out U2.out hx hy
  case rest =>
    obtain ⟨A1, cc1, ra, B1, d1, rb, rfl, hcB, hcR, hfR, uA, uB, kA, kB, vA, vB, lA, lB, hbw⟩ := hcut
    have UA := Lib.hid uA
    have UB := Lib.hid uB
    have hd := uA.1
    have HV := Lib.hid (And.intro vA vB)
    have HBW := Lib.hid hbw
    have hsz := lt_of_cell hcR
    dsimp only at hsz
    clear uA uB vA vB H1 H2 hx hy hbw
    by_cases hl : ra.length = rb.length
    · have t1 : ((ra.length : Int) != (rb.length : Int)) = false := by rw [bne_eq_false_iff_eq]; omega
      have HL := Lib.hid hl
      clear hl
      go_wp2_with (go_at_call 66; refine (back_any _ _ _ _).mono ?_; rintro e w' ⟨rfl, rfl⟩)
      have c1 := cell_new_l wc (.slice A1 ra.length cc1) 22
      have hB0 : Below wc.heap.size wc (wc.alloc (.cells #[.slice A1 ra.length cc1] 22)) := (Below.refl _ wc).alloc (Nat.le_refl _) _
      have hle := HBW.out.size
      refine wpIn_wide.1 (wpIn_rangeFunc_ownF (n := 4) rfl (by decide) (gf := 78) (lb := #[.pointer (some ⟨wc.heap.size, 0, none⟩)]) rfl trivial (enters_of Try.func78 (by kernel_rfl) rfl)
        (back_stops Fence.wide 3 trivial rfl (by decide) wc.heap.size wc.heap.size cc1 A1 ra hd lA wc _ (by simp) (by simp) c1.1 UA.out rfl hB0) BackK.trans (BackK.b (by simp) (by simp)) (Below.refl _ _) (fun _ => rfl)
        (cmpI w.heap.size ra rb wc) (cmpX (w.heap.size + 1) w.heap.size ra rb w)
        (OwnFrom.and (ownFrom_pure _ _) (ownFrom_below (Nat.le_refl _) (by simp)))
        (fun cd => OwnFrom.and (Own.from (fun s A B row hs hg hr => ⟨hs.1, by obtain ⟨p, x, e1, e2, e3, e4⟩ := hs.2; exact ⟨p, x, e1, e2, e3, cell_kept e4 hg hr⟩⟩) _) (ownFrom_below (Nat.le_refl _) (by simp; omega)))
        ⟨by simp, hB0⟩
        (fun x => { tmps := #[.slice A1 ra.length cc1, .slice B ys.length d, undef, .pointer (some ⟨w.heap.size, 0, none⟩), .pointer (some ⟨w.heap.size + 1, 0, none⟩), .int .i64 (x.1.1 : Int), .int .u32 (x.1.2 : Int), u7, u8, u9, u10, .slice A1 ra.length cc1, .int .i64 (ra.length : Int), .slice B1 rb.length d1, .int .i64 (rb.length : Int), .bool false, undef, undef, undef, undef, undef, .slice A1 ra.length cc1,
          .func (.func 78) #[] #[.pointer (some ⟨wc.heap.size, 0, none⟩)], .int .i64 (x.1.1 : Int), .int .u32 (x.1.2 : Int), undef, undef, undef, undef, undef, undef, undef, undef, undef, undef, undef, undef], defers := [] }) ?assign ?body ?done ?stop)
      case assign =>
        intro l x W K hK
        unfold itemE
        gi_wp2
        exact hK
      case body =>
        rintro l pre x W ⟨hz, hB⟩ hpre
        obtain ⟨⟨i, y⟩, hxi⟩ := x
        have hi' : i < ra.length := hxi.1 (by omega)
        have hy : y < 4294967296 := hxi.2
        dsimp only
        have eB := (hB.cell (p := ⟨w.heap.size, 0, none⟩) (by show w.heap.size < _; omega)).trans hcB
        have eR := (hB.cell (p := ⟨w.heap.size + 1, 0, none⟩) hsz).trans hcR
        have gR := (hB.frozen (p := ⟨w.heap.size + 1, 0, none⟩) hsz).trans hfR
        have hi2 : i < rb.length := by rw [← HL.out]; exact hi'
        obtain ⟨b2, off2, hA2, hb2, hc2⟩ := UB.out.at_ (show 0 < rb.length by omega)
        have e2 := (hB.cell (p := ⟨b2, off2 + i, none⟩) hb2).trans (hc2 i hi2)
        rw [hA2] at eB
        have HZ := Lib.hid hz
        have HB := Lib.hid hB
        obtain ⟨z, hzz⟩ : ∃ z, z = rb[i]?.getD 0 := ⟨_, rfl⟩
        rw [← hzz] at e2
        have HZZ := Lib.hid hzz
        clear hz hB c1 hB0 hcB hcR hfR hc2 hA2 hzz t1
        by_cases hy0 : y = z
        · subst hy0
          have t2 : ((y : Int) != (y : Int)) = false := by simp
          gi_wp2
          refine ⟨KeepsOthers.refl _, BackK.refl _ _ _, fun q hq => ?_, HB.out⟩
          rcases List.mem_append.1 hq with hq | hq
          · exact HZ.out q hq
          · simp only [List.mem_singleton] at hq; subst hq; exact HZZ.out
        · have t2 : ((y : Int) != (z : Int)) = true := by rw [bne_iff_ne]; omega
          gi_wp2_with (refine ⟨trivial, ?_⟩; gi_at_call 67; refine (CallsIn.inRound l (callsIn_wide.2 (cmpU32_any y z _))).mono ?_; rintro e w' ⟨rfl, rfl⟩)
          refine ⟨KeepsOthers.setCell _ _ _, ⟨rfl, pre, _, rfl, HZ.out, ?_, ?_⟩, (HBW.out.trans (HB.out.mono hle)).setCell (p := ⟨w.heap.size + 1, 0, none⟩) (by simp) _⟩
          · show y ≠ rb[i]?.getD 0
            rw [← HZZ.out]; exact hy0
          · show _ = some (Value.int .i64 (cmpN y (rb[i]?.getD 0)))
            rw [← HZZ.out]
            exact World.cell?_setCell_same' _ _ _ (by rw [eR]; rfl)
      case done =>
        rintro D zs W hD rfl ⟨hz, hB⟩ hK
        have hv := cmp_same HL.out (cmp_none hz)
        have eR := (hB.cell (p := ⟨w.heap.size + 1, 0, none⟩) hsz).trans hcR
        have gR := (hB.frozen (p := ⟨w.heap.size + 1, 0, none⟩) hsz).trans hfR
        have HB := Lib.hid hB
        have HV2 := Lib.hid hv
        clear hz hB hv c1 hB0 hcB hcR hfR t1
        go_wp2
        have hK' := (KeepsOthers.setCell W ⟨w.heap.size + 1, 0, none⟩ (.int .i64 0)).same D _ hK rfl
        refine ⟨by simp, .inl ⟨_, _, rfl, run_takeDeferred hK', ?_⟩⟩
        have hc5 := cell_kept (World.cell?_setCell_same' W ⟨w.heap.size + 1, 0, none⟩ (.int .i64 0) (by rw [eR]; rfl)) (grownBy_putObj' _ D (.deferred none)) (fun r e => by cases e; exact ⟨_, hK', rfl⟩)
        refine ⟨.int .i64 0, ?_, ?_, ((HBW.out.trans (HB.out.mono hle)).setCell (p := ⟨w.heap.size + 1, 0, none⟩) (by simp) _).trans (belowK_b (w := w) (Nat.le_refl _) _ D _ _ (by simp at hD; omega) hK' rfl rfl)⟩
        · simp [results, Try.f16, go_sem, hc5]
        · rw [← HV.out.1, ← HV.out.2, HV2.out]
          simp [cmpN]
      case stop =>
        rintro D cd pre W hD ⟨k, hk, hpre⟩ ⟨⟨rfl, p, x, e1, e2, e3, hcr⟩, hB⟩ hK
        obtain ⟨g1, g2, g3⟩ := cmp_some hk (e1.symm.trans hpre) e2
        have g4 := cmp_at hd UB.out.1 HL.out g1 g3 (by rw [← g2]; exact e3)
        rw [← g2] at g4
        have G4 := Lib.hid g4
        have HB := Lib.hid hB
        clear hB e1 e2 hpre c1 hB0 g4 g2 g3 hcB hcR hfR t1
        gi_wp2
        refine ⟨by simp, .inl ⟨_, _, rfl, run_takeDeferred hK, ?_⟩⟩
        have hc5 := cell_kept hcr (grownBy_putObj' _ D (.deferred none)) (fun r e => by cases e; exact ⟨_, hK, rfl⟩)
        have hbw := HB.out.trans (belowK_b (w := w) (Nat.le_refl _) W D _ (.deferred none) (by simp at hD; omega) hK rfl rfl)
        refine ⟨.int .i64 (cmpN x.1.2 (rb[x.1.1]?.getD 0)), ?_, ?_, hbw⟩
        · simp [results, Try.f16, go_sem, hc5]
        · rw [← HV.out.1, ← HV.out.2, G4.out]
    · have t1 : ((ra.length : Int) != (rb.length : Int)) = true := by rw [bne_iff_ne]; omega
      go_wp2_with (go_at_call 65; refine (cmpInt_any _ _ _).mono ?_; rintro e w' ⟨rfl, rfl⟩)
      have hc5 := World.cell?_setCell_same' wc ⟨w.heap.size + 1, 0, none⟩ (.int .i64 (cmpZ (ra.length : Int) (rb.length : Int))) (by rw [hcR]; rfl)
      refine ⟨.int .i64 (cmpZ (ra.length : Int) (rb.length : Int)), ?_, ?_, HBW.out.setCell (p := ⟨w.heap.size + 1, 0, none⟩) (by simp) _⟩
      · simp [results, Try.f16, go_sem, hc5]
      · rw [← HV.out.1, ← HV.out.2]
        congr 2
        unfold cmpN cmpZ
        rcases Nat.lt_or_ge ra.length rb.length with hlt | hge
        · rw [if_pos (lt_of_len hd kB hlt), if_pos (by omega)]
        · have := lt_of_len UB.out.1 kA (show rb.length < ra.length by omega)
          rw [if_neg (by omega), if_neg (by omega), if_neg (by omega), if_neg (by omega)]

end Go.Proofs.Ythkeehfoefjnfaa
