/-
  node: Empty, Hollow.
-/
import Derived.Test.YtilhnnbmplnnpaaNdEmpty

namespace Go.Proofs.Ytilhnnbmplnnpaa
set_option linter.unusedVariables false
set_option linter.unusedSimpArgs false
open Go.RowKit Nds
theorem gb_below {a w w' : World} {b : Nat} (h : Below a.heap.size a w) (hb : a.heap.size ≤ b) (hg : w.grownBy w' (some b)) : Below a.heap.size a w' :=
  h.grown hg h.size (fun k hk => by cases hk; exact hb)
set_option maxRecDepth 100000 in
set_option maxHeartbeats 1600000 in
theorem nempty_any (A : Option Addr) (c n : Nat) (l : List Nd) (k : Nat) (w : World) (h : Ns w A c l) (hn : l.length = n) (hl : looseB l = true) (hk : k ≤ n) :
    Calls Try.prog 13 #[.slice A n c, .int .i64 (k : Int)] w fun e w' => e = .returned (.bool (empB l k)) ∧ Below w.heap.size w w' := by
  have hcap := h.cap
  rw [hn] at hcap
  have HN := Lib.hid h
  have HL := Lib.hid hn
  clear h hn
  rcases (show k = 0 ∨ ∃ m, k = m + 1 by cases k with | zero => exact .inl rfl | succ m => exact .inr ⟨m, rfl⟩) with rfl | ⟨m, rfl⟩
  · rw [empB_zero]
    go_enter Try.func13, Try.ntmps13
    go_wp2_with fail
    go_ret
    exact ⟨rfl, Below.refl _ _⟩
  · have hml : m < l.length := by rw [HL.out]; omega
    obtain ⟨b, off, rfl, hb, hc⟩ := HN.out.at_ (by omega)
    obtain ⟨c1, c2, c3, c4, c5⟩ := hc m hml
    have hfz := Lib.hid (loose_fit hl hml)
    have hwz := Lib.hid (HN.out.wf hml)
    have hem := Lib.hid (emp_at hl hml)
    have HLL := Lib.hid hl
    have i1 : (m : Int) < (n : Int) := by omega
    clear hc hl hml
    obtain ⟨z, hz⟩ : ∃ z, z = at_ l m := ⟨_, rfl⟩
    rw [← hz] at c1 c2 c3 c4 c5 hfz hwz hem
    have HZ := Lib.hid hz
    have hzv := (fit_lv hfz.out).2
    have hmm := @run_makeMap Try.prog
    have t1 : (((m + 1 : Nat) : Int) == 0) = false := beq_eq_false_iff_ne.2 (by omega)
    have e1 : (((m + 1 : Nat) : Int)) = (m : Int) + 1 := by omega
    have HNM := Lib.hid (NM.made w)
    have hbs : ∀ a, (some (⟨b, off, none⟩ : Addr)) = some a → a.block ≠ w.heap.size := fun a e => by cases e; exact Nat.ne_of_lt hb
    have HBS := Lib.hid hbs
    have HN2 := Lib.hid (HN.out.gb hbs (World.grownBy_alloc w (.map #[] 0) (some w.heap.size)))
    rw [e1] at t1 ⊢
    rw [hem.out]
    clear hz e1 hbs
    go_enter Try.func13, Try.ntmps13
    go_wp2_with (go_at_call 24; refine (empty_rec _ _ n w.heap.size l HLL.out HL.out hcap HBS.out 1329 z [] _ hzv hwz.out hfz.out HN2.out HNM.out (by intro y hy; cases hy)).mono ?_; rintro e w1 ⟨rfl, S2, hm2, hs2, hg2⟩; have HG3 := Lib.hid hg2; clear hm2 hs2 hg2)
    go_ret
    exact ⟨rfl, gb_below ((Below.refl _ _).alloc (Nat.le_refl _) _) (Nat.le_refl _) HG3.out⟩
/-- A quarter without what touches the middle. -/
def rim (x : Nd) (i : Nat) : Nd := match i with | 0 => { x with d := 0 } | 1 => { x with c := 0 } | 2 => { x with b := 0 } | _ => { x with a := 0 }
theorem rim_lv (x : Nd) (i : Nat) : (rim x i).lv = x.lv := by
  unfold rim
  split <;> rfl
theorem rim_kid (x : Nd) (i j : Nat) : (rim x i).kid j = 0 ∨ (rim x i).kid j = x.kid j := by
  unfold rim
  split <;> (unfold Nd.kid; split <;> simp)
theorem rim_wf {x : Nd} (h : x.wf) (i : Nat) : (rim x i).wf := by
  obtain ⟨h0, h1, h2, h3, h4⟩ := h
  have hz := in64_0
  unfold rim
  split
  · exact ⟨h0, h1, h2, h3, hz⟩
  · exact ⟨h0, h1, h2, hz, h4⟩
  · exact ⟨h0, h1, hz, h3, h4⟩
  · exact ⟨h0, hz, h2, h3, h4⟩
theorem kid_zero (l : List Nd) (v : Int) : kidB l v 0 = true := by
  unfold kidB
  split
  · exact decide_eq_true (by omega)
  · exact decide_eq_true (.inl rfl)
theorem rim_fit {l : List Nd} {x : Nd} (h : fitB l x = true) (i : Nat) : fitB l (rim x i) = true := by
  have hv := fit_lv h
  unfold fitB
  rw [rim_lv, Bool.and_eq_true, each_iff]
  refine ⟨decide_eq_true hv, fun j hj => ?_⟩
  rcases rim_kid x i j with e | e
  · rw [e]; exact kid_zero _ _
  · rw [e]; exact fit_kid h hj
def hollowB (l : List Nd) (n : Nat) : Bool :=
  decide (0 < n ∧ 2 ≤ (at_ l (n - 1)).lv) && (List.range 4).all fun i => decide ((at_ l (n - 1)).kid i = 0) || nodeEmp l (rim (at_ l (((at_ l (n - 1)).kid i).toNat - 1)) i)
theorem all4_no {p : Nat → Bool} {k : Nat} (hk : k < 4) (h : p k = false) : false = (List.range 4).all p := by
  cases hq : (List.range 4).all p
  · rfl
  · have := List.all_eq_true.1 hq k (List.mem_range.2 hk)
    rw [h] at this
    cases this
theorem all4_yes {p : Nat → Bool} (h : ∀ j, j < 4 → p j = true) : true = (List.range 4).all p :=
  (List.all_eq_true.2 fun j hj => h j (List.mem_range.1 hj)).symm
set_option maxRecDepth 100000 in
set_option maxHeartbeats 3200000 in
theorem hollow_any (A : Option Addr) (c n : Nat) (l : List Nd) (k : Nat) (w : World) (h : Ns w A c l) (hn : l.length = n) (hl : looseB l = true) (hk : k ≤ n) :
    Calls Try.prog 15 #[.slice A n c, .int .i64 (k : Int)] w fun e w' => e = .returned (.bool (hollowB l k)) ∧ Below w.heap.size w w' := by
  have hcap := h.cap
  rw [hn] at hcap
  have HN := Lib.hid h
  have HL := Lib.hid hn
  clear h hn
  rcases (show k = 0 ∨ ∃ m, k = m + 1 by cases k with | zero => exact .inl rfl | succ m => exact .inr ⟨m, rfl⟩) with rfl | ⟨m, rfl⟩
  · rw [show hollowB l 0 = false by unfold hollowB; rw [decide_eq_false (by omega)]; rfl]
    go_enter Try.func15, Try.ntmps15
    go_wp2_with fail
    go_ret
    exact ⟨rfl, Below.refl _ _⟩
  · have hml : m < l.length := by rw [HL.out]; omega
    obtain ⟨R, hR⟩ : ∃ R, R = hollowB l (m + 1) := ⟨_, rfl⟩
    rw [← hR]
    have HR := Lib.hid hR
    clear hR
    obtain ⟨b, off, rfl, hb, hc⟩ := HN.out.at_ (by omega)
    obtain ⟨c1, c2, c3, c4, c5⟩ := hc m hml
    have hfx := Lib.hid (loose_iff.1 hl m hml)
    have HC := Lib.hid hc
    have HLL := Lib.hid hl
    have HML := Lib.hid hml
    have i1 : (m : Int) < (n : Int) := by omega
    clear hc hl hml
    obtain ⟨x, hx⟩ : ∃ x, x = at_ l m := ⟨_, rfl⟩
    rw [← hx] at c1 c2 c3 c4 c5 hfx
    have HX := Lib.hid hx
    have hxv := fit_lv hfx.out
    have hmm := @run_makeMap Try.prog
    have t1 : (((m + 1 : Nat) : Int) == 0) = false := beq_eq_false_iff_ne.2 (by omega)
    have e1 : (((m + 1 : Nat) : Int)) = (m : Int) + 1 := by omega
    rw [e1] at t1 ⊢
    clear hx e1
    by_cases h2 : x.lv < 2
    · have hr : R = false := by
        rw [HR.out]
        unfold hollowB
        rw [decide_eq_false (by rw [show m + 1 - 1 = m by omega, ← HX.out]; omega)]
        rfl
      subst hr
      go_enter Try.func15, Try.ntmps15
      go_wp2_with fail
      go_ret
      exact ⟨rfl, Below.refl _ _⟩
    · have HNM := Lib.hid (NM.made w)
      have hbs : ∀ a, (some (⟨b, off, none⟩ : Addr)) = some a → a.block ≠ w.heap.size := fun a e => by cases e; exact Nat.ne_of_lt hb
      have HBS := Lib.hid hbs
      clear hbs
      have hr : R = (List.range 4).all fun i => decide (x.kid i = 0) || nodeEmp l (rim (at_ l ((x.kid i).toNat - 1)) i) := by
        rw [HR.out]
        unfold hollowB
        rw [show m + 1 - 1 = m by omega, ← HX.out, decide_eq_true (by omega)]
        rfl
      have HR2 := Lib.hid hr
      clear hr HR
      go_enter Try.func15, Try.ntmps15
      go_wp2_with fail
      clear hmm
      obtain ⟨g, hg⟩ : ∃ g, g = w.heap.size := ⟨_, rfl⟩
      have HG := Lib.hid hg
      have HW0 := Lib.hid (show Below w.heap.size w (w.alloc (.map #[] 0)) from (Below.refl _ _).alloc (Nat.le_refl _) _)
      rw [← hg] at HNM HBS ⊢
      have HGW := Lib.hid (show w.grownBy (w.alloc (.map #[] 0)) (some g) from World.grownBy_alloc w (.map #[] 0) (some g))
      generalize hW : w.alloc _ = W at *
      clear hW hg
      go_loopw [27, 6, 7, 8] (fun i z1 z2 z3 wr => ∃ (k : Nat) (q : Int) (v1 v2 v3 : Value) (S' : List Nd), q = k ∧ k ≤ 4 ∧ i = .int .i64 q ∧ z1 = v1 ∧ z2 = v2 ∧ z3 = v3 ∧ (∀ j, j < k → (decide (x.kid j = 0) || nodeEmp l (rim (at_ l ((x.kid j).toNat - 1)) j)) = true) ∧ NM wr g S' ∧ AllE l S' ∧ W.grownBy wr (some g)) (fun i _ _ _ _ => 4 - (intOf i).toNat)
      case atStart => exact ⟨0, 0, _, _, _, [], rfl, by omega, rfl, rfl, rfl, rfl, fun j hj => by omega, HNM.out, (by intro y hy; cases hy), gb_refl _ _⟩
      case round =>
        obtain ⟨k, q, v1, v2, v3, S', hqk, hk, rfl, rfl, rfl, rfl, hall, hnm, hae, hgr⟩ := hrel
        have HA := Lib.hid hall
        have HM := Lib.hid hnm
        have HAE := Lib.hid hae
        have HQK := Lib.hid hqk
        clear hall hnm hae hqk
        by_cases hlt : k < 4
        · have hi := index4 x k hlt
          rw [← HQK.out] at hi
          have hfk := kid_mono (fit_kid hfx.out hlt)
          have q0 : 0 ≤ q := by rw [HQK.out]; omega
          have q1 : q < 4 := by rw [HQK.out]; omega
          obtain ⟨y, hy⟩ : ∃ y, y = x.kid k := ⟨_, rfl⟩
          rw [← hy] at hi hfk
          have HY := Lib.hid hy
          clear hy
          rcases kid_up (by omega) hfk with rfl | ⟨p, rfl, hp, hpl⟩
          · clear hfk
            go_wp2_with fail
            go_roundw
            case rel =>
              refine ⟨k + 1, q + 1, _, _, _, S', by rw [HQK.out]; omega, by omega, by go_num, rfl, rfl, rfl, fun j hj => ?_, HM.out, HAE.out, hgr⟩
              rcases Nat.lt_or_ge j k with h3 | h3
              · exact HA.out j h3
              · rw [show j = k by omega, ← HY.out]; rfl
            case measure => simp [intOf]; omega
          · have hpn : p < n := by rw [← HL.out]; exact hp
            have hne : b ≠ g := HBS.out _ rfl
            have hbW : b < W.heap.size := Nat.lt_of_lt_of_le hb HGW.out.size
            have hNr := Lib.hid ((HN.out.gb HBS.out HGW.out).gb HBS.out hgr)
            have hcr : wr.heap[b]? = w.heap[b]? := (hgr.block b hbW (fun e => hne (by cases e; rfl))).trans (HGW.out.block b hb (fun e => hne (by cases e; rfl)))
            obtain ⟨d1, d2, d3, d4, d5⟩ := (HC.out p hp).below hcr
            have hfz := Lib.hid (loose_fit HLL.out hp)
            have hwz := Lib.hid (HN.out.wf hp)
            clear hcr hfk hp
            obtain ⟨z, hz⟩ : ∃ z, z = at_ l p := ⟨_, rfl⟩
            rw [← hz] at d1 d2 d3 d4 d5 hfz hwz hpl
            have HZ := Lib.hid hz
            have t2 : (((p : Int) + 1) == 0) = false := beq_eq_false_iff_ne.2 (by omega)
            have i2 : (p : Int) < (n : Int) := by omega
            have hlz : z.lv ≤ (1329 : Nat) := by omega
            have hgl := HM.out.lt
            have HPL := Lib.hid hpl
            clear hz hpl
            rcases (show k = 0 ∨ k = 1 ∨ k = 2 ∨ k = 3 by omega) with rfl | rfl | rfl | rfl
            · obtain rfl : q = 0 := by have := HQK.out; omega
              have e5 : rim (at_ l ((x.kid 0).toNat - 1)) 0 = rim z 0 := by rw [← HY.out, show ((p : Int) + 1).toNat - 1 = p by omega, HZ.out]
              have E5 := Lib.hid e5
              have hW2 : wr.grownBy (wr.alloc (.cells #[.int .i64 (rim z 0).lv, .int .i64 (rim z 0).a, .int .i64 (rim z 0).b, .int .i64 (rim z 0).c, .int .i64 (rim z 0).d] 35)) (some g) := World.grownBy_alloc _ _ _
              have HW2 := Lib.hid hW2
              have HM2 := Lib.hid (HM.out.stay (Below.heap_alloc wr (.cells #[.int .i64 (rim z 0).lv, .int .i64 (rim z 0).a, .int .i64 (rim z 0).b, .int .i64 (rim z 0).c, .int .i64 (rim z 0).d] 35) g HM.out.lt))
              have HN2 := Lib.hid (hNr.out.gb HBS.out hW2)
              have HBW := Lib.hid (show w.heap.size ≤ g by rw [HG.out]; exact Nat.le_refl _)
              clear hW2 e5
              cases hr : nodeEmp l (rim z 0) with
              | true =>
                have HRR := Lib.hid hr
                clear hr
                go_wp2_with (go_at_call 24; refine (empty_rec _ _ n g l HLL.out HL.out hcap HBS.out 1329 (rim z 0) S' _ hlz (rim_wf hwz.out _) (rim_fit hfz.out _) HN2.out HM2.out HAE.out).mono ?_; rintro e w1 ⟨rfl, S2, hm2, hs2, hg2⟩; have HM3 := Lib.hid hm2; have HS3 := Lib.hid hs2; have HG3 := Lib.hid hg2; clear hm2 hs2 hg2; rw [HRR.out])
                go_roundw
                case rel =>
                  refine ⟨1, 1, _, _, _, S2, rfl, by omega, rfl, rfl, rfl, rfl, fun j hj => ?_, HM3.out, HS3.out, gb_trans hgr (gb_trans HW2.out HG3.out)⟩
                  rcases Nat.lt_or_ge j 0 with h3 | h3
                  · exact HA.out j h3
                  · rw [show j = 0 by omega, E5.out, HRR.out, Bool.or_true]
                case measure => simp [intOf]
              | false =>
                have HRR := Lib.hid hr
                clear hr
                go_wp2_with (go_at_call 24; refine (empty_rec _ _ n g l HLL.out HL.out hcap HBS.out 1329 (rim z 0) S' _ hlz (rim_wf hwz.out _) (rim_fit hfz.out _) HN2.out HM2.out HAE.out).mono ?_; rintro e w1 ⟨rfl, S2, hm2, hs2, hg2⟩; have HM3 := Lib.hid hm2; have HS3 := Lib.hid hs2; have HG3 := Lib.hid hg2; clear hm2 hs2 hg2; rw [HRR.out])
                go_ret
                refine ⟨nd_b ?_, gb_below (gb_below (gb_below HW0.out HBW.out hgr) HBW.out HW2.out) HBW.out HG3.out⟩
                rw [HR2.out]
                refine all4_no (k := 0) (by omega) ?_
                rw [E5.out, HRR.out, Bool.or_false]
                exact decide_eq_false (by rw [← HY.out]; omega)
            · obtain rfl : q = 1 := by have := HQK.out; omega
              have e5 : rim (at_ l ((x.kid 1).toNat - 1)) 1 = rim z 1 := by rw [← HY.out, show ((p : Int) + 1).toNat - 1 = p by omega, HZ.out]
              have E5 := Lib.hid e5
              have hW2 : wr.grownBy (wr.alloc (.cells #[.int .i64 (rim z 1).lv, .int .i64 (rim z 1).a, .int .i64 (rim z 1).b, .int .i64 (rim z 1).c, .int .i64 (rim z 1).d] 35)) (some g) := World.grownBy_alloc _ _ _
              have HW2 := Lib.hid hW2
              have HM2 := Lib.hid (HM.out.stay (Below.heap_alloc wr (.cells #[.int .i64 (rim z 1).lv, .int .i64 (rim z 1).a, .int .i64 (rim z 1).b, .int .i64 (rim z 1).c, .int .i64 (rim z 1).d] 35) g HM.out.lt))
              have HN2 := Lib.hid (hNr.out.gb HBS.out hW2)
              have HBW := Lib.hid (show w.heap.size ≤ g by rw [HG.out]; exact Nat.le_refl _)
              clear hW2 e5
              cases hr : nodeEmp l (rim z 1) with
              | true =>
                have HRR := Lib.hid hr
                clear hr
                go_wp2_with (go_at_call 24; refine (empty_rec _ _ n g l HLL.out HL.out hcap HBS.out 1329 (rim z 1) S' _ hlz (rim_wf hwz.out _) (rim_fit hfz.out _) HN2.out HM2.out HAE.out).mono ?_; rintro e w1 ⟨rfl, S2, hm2, hs2, hg2⟩; have HM3 := Lib.hid hm2; have HS3 := Lib.hid hs2; have HG3 := Lib.hid hg2; clear hm2 hs2 hg2; rw [HRR.out])
                go_roundw
                case rel =>
                  refine ⟨2, 2, _, _, _, S2, rfl, by omega, rfl, rfl, rfl, rfl, fun j hj => ?_, HM3.out, HS3.out, gb_trans hgr (gb_trans HW2.out HG3.out)⟩
                  rcases Nat.lt_or_ge j 1 with h3 | h3
                  · exact HA.out j h3
                  · rw [show j = 1 by omega, E5.out, HRR.out, Bool.or_true]
                case measure => simp [intOf]
              | false =>
                have HRR := Lib.hid hr
                clear hr
                go_wp2_with (go_at_call 24; refine (empty_rec _ _ n g l HLL.out HL.out hcap HBS.out 1329 (rim z 1) S' _ hlz (rim_wf hwz.out _) (rim_fit hfz.out _) HN2.out HM2.out HAE.out).mono ?_; rintro e w1 ⟨rfl, S2, hm2, hs2, hg2⟩; have HM3 := Lib.hid hm2; have HS3 := Lib.hid hs2; have HG3 := Lib.hid hg2; clear hm2 hs2 hg2; rw [HRR.out])
                go_ret
                refine ⟨nd_b ?_, gb_below (gb_below (gb_below HW0.out HBW.out hgr) HBW.out HW2.out) HBW.out HG3.out⟩
                rw [HR2.out]
                refine all4_no (k := 1) (by omega) ?_
                rw [E5.out, HRR.out, Bool.or_false]
                exact decide_eq_false (by rw [← HY.out]; omega)
            · obtain rfl : q = 2 := by have := HQK.out; omega
              have e5 : rim (at_ l ((x.kid 2).toNat - 1)) 2 = rim z 2 := by rw [← HY.out, show ((p : Int) + 1).toNat - 1 = p by omega, HZ.out]
              have E5 := Lib.hid e5
              have hW2 : wr.grownBy (wr.alloc (.cells #[.int .i64 (rim z 2).lv, .int .i64 (rim z 2).a, .int .i64 (rim z 2).b, .int .i64 (rim z 2).c, .int .i64 (rim z 2).d] 35)) (some g) := World.grownBy_alloc _ _ _
              have HW2 := Lib.hid hW2
              have HM2 := Lib.hid (HM.out.stay (Below.heap_alloc wr (.cells #[.int .i64 (rim z 2).lv, .int .i64 (rim z 2).a, .int .i64 (rim z 2).b, .int .i64 (rim z 2).c, .int .i64 (rim z 2).d] 35) g HM.out.lt))
              have HN2 := Lib.hid (hNr.out.gb HBS.out hW2)
              have HBW := Lib.hid (show w.heap.size ≤ g by rw [HG.out]; exact Nat.le_refl _)
              clear hW2 e5
              cases hr : nodeEmp l (rim z 2) with
              | true =>
                have HRR := Lib.hid hr
                clear hr
                go_wp2_with (go_at_call 24; refine (empty_rec _ _ n g l HLL.out HL.out hcap HBS.out 1329 (rim z 2) S' _ hlz (rim_wf hwz.out _) (rim_fit hfz.out _) HN2.out HM2.out HAE.out).mono ?_; rintro e w1 ⟨rfl, S2, hm2, hs2, hg2⟩; have HM3 := Lib.hid hm2; have HS3 := Lib.hid hs2; have HG3 := Lib.hid hg2; clear hm2 hs2 hg2; rw [HRR.out])
                go_roundw
                case rel =>
                  refine ⟨3, 3, _, _, _, S2, rfl, by omega, rfl, rfl, rfl, rfl, fun j hj => ?_, HM3.out, HS3.out, gb_trans hgr (gb_trans HW2.out HG3.out)⟩
                  rcases Nat.lt_or_ge j 2 with h3 | h3
                  · exact HA.out j h3
                  · rw [show j = 2 by omega, E5.out, HRR.out, Bool.or_true]
                case measure => simp [intOf]
              | false =>
                have HRR := Lib.hid hr
                clear hr
                go_wp2_with (go_at_call 24; refine (empty_rec _ _ n g l HLL.out HL.out hcap HBS.out 1329 (rim z 2) S' _ hlz (rim_wf hwz.out _) (rim_fit hfz.out _) HN2.out HM2.out HAE.out).mono ?_; rintro e w1 ⟨rfl, S2, hm2, hs2, hg2⟩; have HM3 := Lib.hid hm2; have HS3 := Lib.hid hs2; have HG3 := Lib.hid hg2; clear hm2 hs2 hg2; rw [HRR.out])
                go_ret
                refine ⟨nd_b ?_, gb_below (gb_below (gb_below HW0.out HBW.out hgr) HBW.out HW2.out) HBW.out HG3.out⟩
                rw [HR2.out]
                refine all4_no (k := 2) (by omega) ?_
                rw [E5.out, HRR.out, Bool.or_false]
                exact decide_eq_false (by rw [← HY.out]; omega)
            · obtain rfl : q = 3 := by have := HQK.out; omega
              have e5 : rim (at_ l ((x.kid 3).toNat - 1)) 3 = rim z 3 := by rw [← HY.out, show ((p : Int) + 1).toNat - 1 = p by omega, HZ.out]
              have E5 := Lib.hid e5
              have hW2 : wr.grownBy (wr.alloc (.cells #[.int .i64 (rim z 3).lv, .int .i64 (rim z 3).a, .int .i64 (rim z 3).b, .int .i64 (rim z 3).c, .int .i64 (rim z 3).d] 35)) (some g) := World.grownBy_alloc _ _ _
              have HW2 := Lib.hid hW2
              have HM2 := Lib.hid (HM.out.stay (Below.heap_alloc wr (.cells #[.int .i64 (rim z 3).lv, .int .i64 (rim z 3).a, .int .i64 (rim z 3).b, .int .i64 (rim z 3).c, .int .i64 (rim z 3).d] 35) g HM.out.lt))
              have HN2 := Lib.hid (hNr.out.gb HBS.out hW2)
              have HBW := Lib.hid (show w.heap.size ≤ g by rw [HG.out]; exact Nat.le_refl _)
              clear hW2 e5
              cases hr : nodeEmp l (rim z 3) with
              | true =>
                have HRR := Lib.hid hr
                clear hr
                go_wp2_with (go_at_call 24; refine (empty_rec _ _ n g l HLL.out HL.out hcap HBS.out 1329 (rim z 3) S' _ hlz (rim_wf hwz.out _) (rim_fit hfz.out _) HN2.out HM2.out HAE.out).mono ?_; rintro e w1 ⟨rfl, S2, hm2, hs2, hg2⟩; have HM3 := Lib.hid hm2; have HS3 := Lib.hid hs2; have HG3 := Lib.hid hg2; clear hm2 hs2 hg2; rw [HRR.out])
                go_roundw
                case rel =>
                  refine ⟨4, 4, _, _, _, S2, rfl, by omega, rfl, rfl, rfl, rfl, fun j hj => ?_, HM3.out, HS3.out, gb_trans hgr (gb_trans HW2.out HG3.out)⟩
                  rcases Nat.lt_or_ge j 3 with h3 | h3
                  · exact HA.out j h3
                  · rw [show j = 3 by omega, E5.out, HRR.out, Bool.or_true]
                case measure => simp [intOf]
              | false =>
                have HRR := Lib.hid hr
                clear hr
                go_wp2_with (go_at_call 24; refine (empty_rec _ _ n g l HLL.out HL.out hcap HBS.out 1329 (rim z 3) S' _ hlz (rim_wf hwz.out _) (rim_fit hfz.out _) HN2.out HM2.out HAE.out).mono ?_; rintro e w1 ⟨rfl, S2, hm2, hs2, hg2⟩; have HM3 := Lib.hid hm2; have HS3 := Lib.hid hs2; have HG3 := Lib.hid hg2; clear hm2 hs2 hg2; rw [HRR.out])
                go_ret
                refine ⟨nd_b ?_, gb_below (gb_below (gb_below HW0.out HBW.out hgr) HBW.out HW2.out) HBW.out HG3.out⟩
                rw [HR2.out]
                refine all4_no (k := 3) (by omega) ?_
                rw [E5.out, HRR.out, Bool.or_false]
                exact decide_eq_false (by rw [← HY.out]; omega)
        · have q4 : 4 ≤ q := by have := HQK.out; omega
          go_wp2_with fail
          go_ret
          refine ⟨nd_b ?_, gb_below HW0.out (by rw [HG.out]; exact Nat.le_refl _) hgr⟩
          rw [HR2.out]
          exact all4_yes fun j hj => HA.out j (by omega)
end Go.Proofs.Ytilhnnbmplnnpaa
