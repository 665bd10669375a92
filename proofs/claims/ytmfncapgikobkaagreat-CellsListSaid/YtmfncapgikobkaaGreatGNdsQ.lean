/-
  node: Level, Same; the reference's Nodes.
  node: the reference's Loose.
  node: the reference's Empties, Empty.
  node: the reference's Empty, Hollow.
  node: the reference's end, Right.
  node: the reference's Right.
  node: the laws' examples.
  node: slices of nodes that the call has made; append.
  node: quads, plain: who is a quarter of whom.
-/
import Derived.Test.YtmfncapgikobkaaGreatGNdRight
import Derived.IntWalk
import Derived.OwnWalk
import Derived.Maps.AppendAt
import Derived.Laws.AppendOwnNone

namespace Go.Proofs.YtmfncapgikobkaaGreat
set_option maxRecDepth 100000
set_option linter.unusedVariables false
set_option linter.unusedSimpArgs false
open Go.RowKit Nds
theorem below_drewN' {B : Nat} {a w : World} (h : Below B a w) (n : Nat) : Below B a (w.drewN n) := ⟨h.os, h.tape, h.output, h.size, h.block⟩
theorem nd_lists {l m : List Nd} (hl : l.length = m.length) (h : ∀ j, j < l.length → at_ l j = at_ m j) : l = m := by
 refine List.ext_getElem hl fun j h1 h2 => ?_
 have := h j h1
 unfold at_ at this
 rwa [List.getElem?_eq_getElem h1, List.getElem?_eq_getElem h2] at this
def levelZ (l : List Nd) : Int := if l = [] then 0 else (at_ l (l.length - 1)).lv
set_option maxRecDepth 100000 in
set_option maxHeartbeats 1600000 in
theorem nlevel_any (A : Option Addr) (c n : Nat) (l : List Nd) (w : World) (h : Ns w A c l) (hn : l.length = n) :
  Calls Tryz.prog 40 #[.agg #[.slice A n c]] w fun e w' => e = .returned (.int .i64 (levelZ l)) ∧ Below w.heap.size w w' := by
 have hcap := h.cap
 rw [hn] at hcap
 have HB := Lib.hid ((Below.refl w.heap.size w).alloc (Nat.le_refl _) (.cells #[.slice A n c] 27))
 by_cases h0 : n = 0
 ·
  have hr : levelZ l = 0 := by
   unfold levelZ
   rw [if_pos (List.eq_nil_of_length_eq_zero (hn.trans h0))]
  rw [hr]
  have t1 : ((n : Int) == 0) = true := by rw [h0]; rfl
  clear h0 hn hr h
  go_enter Tryz.func40, Tryz.ntmps40
  go_wp2_with fail
  go_ret
  exact ⟨rfl, HB.out⟩
 ·
  obtain ⟨b, off, rfl, hb, hc⟩ := h.at_ (by omega)
  obtain ⟨p, rfl⟩ : ∃ p, n = p + 1 := ⟨n - 1, by omega⟩
  have c1 := (hc p (by omega)).1
  have hr : levelZ l = (at_ l p).lv := by
   unfold levelZ
   rw [if_neg (fun e => by rw [e] at hn; cases hn), hn]
   rfl
  rw [hr]
  generalize (at_ l p).lv = u at *
  have t1 : (((p + 1 : Nat) : Int) == 0) = false := beq_eq_false_iff_ne.2 (by omega)
  have t2 : ((p : Int) + 1 == 0) = false := beq_eq_false_iff_ne.2 (by omega)
  have i1 : (p : Int) < (p : Int) + 1 := by omega
  clear h0 hn hr h hc
  go_enter Tryz.func40, Tryz.ntmps40
  go_wp2_with fail
  go_ret
  exact ⟨rfl, HB.out⟩
set_option maxRecDepth 100000 in
set_option maxHeartbeats 1600000 in
theorem rnodes_any (A B : Option Addr) (c d n p : Nat) (l m : List Nd) (w : World) (h : Ns w A c l) (k : Ns w B d m) (hn : l.length = n) (hp : m.length = p) :
  Calls Tryz.prog 34 #[.slice A n c, .slice B p d] w fun e w' => e = .returned (.bool (decide (l = m))) ∧ ∃ q, w' = w.drewN q := by
 have hcl := h.cap
 have hcm := k.cap
 rw [hn] at hcl
 rw [hp] at hcm
 obtain ⟨R, hR⟩ : ∃ R, R = decide (l = m) := ⟨_, rfl⟩
 rw [← hR]
 have HR := Lib.hid hR
 clear hR
 by_cases hl : n = p
 ·
  subst hl
  have HNL := Lib.hid h
  have HNM := Lib.hid k
  have HL := Lib.hid hn
  have HP := Lib.hid hp
  clear h k hn hp
  go_enter Tryz.func34, Tryz.ntmps34
  go_wp2_with fail
  go_loopw [5] (fun i  wr => ∃ (k : Nat) (nd : Nat), wr = w.drewN nd ∧ k ≤ n ∧ i = .int .i64 k ∧ ∀ j, j < k → at_ l j = at_ m j) (fun i _ => n - (intOf i).toNat)
  case atStart => exact ⟨0, 0, rfl, by omega, rfl, fun j hj => by omega⟩
  case round =>
   obtain ⟨k, nd, rfl, hk, rfl, hall⟩ := hrel
   have HA := Lib.hid hall
   clear hall
   by_cases hlt : k < n
   ·
    obtain ⟨b, off, rfl, hb, hc⟩ := HNL.out.at_ (by rw [HL.out]; omega)
    obtain ⟨b2, off2, rfl, hb2, hc2⟩ := HNM.out.at_ (by rw [HP.out]; omega)
    obtain ⟨c1, c2, c3, c4, c5⟩ := hc k (by rw [HL.out]; exact hlt)
    obtain ⟨d1, d2, d3, d4, d5⟩ := hc2 k (by rw [HP.out]; exact hlt)
    have hwx := HNL.out.wf (i := k) (by rw [HL.out]; exact hlt)
    have hwy := HNM.out.wf (i := k) (by rw [HP.out]; exact hlt)
    clear hc hc2
    obtain ⟨x, hx⟩ : ∃ x, x = at_ l k := ⟨_, rfl⟩
    obtain ⟨y, hy⟩ : ∃ y, y = at_ m k := ⟨_, rfl⟩
    rw [← hx] at c1 c2 c3 c4 c5 hwx
    rw [← hy] at d1 d2 d3 d4 d5 hwy
    have HX := Lib.hid hx
    have HY := Lib.hid hy
    clear hx hy
    have hq := neq_node x y hwx hwy
    have i1 : (k : Int) < (n : Int) := by omega
    have i2 : (0 : Int) ≤ (k : Int) := by omega
    clear hwx hwy
    by_cases hxy : x = y
    ·
     have HXY := Lib.hid hxy
     rw [decide_eq_true hxy] at hq
     clear hxy
     go_wp2_with fail
     go_quiet (fail)
     go_wp2_with fail
     go_roundw
     case rel =>
      refine ⟨k + 1, _, rfl, by omega, by go_num, fun j hj => ?_⟩
      rcases Nat.lt_or_ge j k with h1 | h1
      ·
       exact HA.out j h1
      ·
       rw [show j = k by omega, ← HX.out, ← HY.out]; exact HXY.out
     case measure => simp [intOf]; omega
    ·
     have HXY := Lib.hid hxy
     rw [decide_eq_false hxy] at hq
     clear hxy
     go_wp2_with fail
     go_quiet (fail)
     go_wp2_with fail
     go_ret
     refine ⟨nd_b ?_, by first | exact ⟨_, rfl⟩ | exact ⟨_, World.drewN_drewN _ _ _⟩⟩
     rw [HR.out]
     exact (decide_eq_false fun e => HXY.out (by rw [HX.out, HY.out, e])).symm
   ·
    go_wp2_with fail
    go_ret
    refine ⟨nd_b ?_, ⟨_, rfl⟩⟩
    rw [HR.out]
    exact (decide_eq_true (nd_lists (HL.out.trans HP.out.symm) fun j hj => HA.out j (by rw [HL.out] at hj; omega))).symm
 ·
  have hr : R = false := by
   rw [HR.out]
   exact decide_eq_false fun e => hl (by rw [← hn, ← hp, e])
  subst hr
  have t1 : ((n : Int) != (p : Int)) = true := by rw [bne_iff_ne]; omega
  clear hl h k hn hp
  go_enter Tryz.func34, Tryz.ntmps34
  go_wp2_with fail
  go_ret
  exact ⟨rfl, 0, rfl⟩
theorem drewN_below {w w' : World} (h : ∃ q, w' = w.drewN q) : Below w.heap.size w w' := by
 obtain ⟨q, rfl⟩ := h
 exact below_drewN' (Below.refl _ _) q
end Go.Proofs.YtmfncapgikobkaaGreat

namespace Go.Proofs.YtmfncapgikobkaaGreat
set_option maxRecDepth 100000
set_option linter.unusedVariables false
set_option linter.unusedSimpArgs false
open Go.RowKit Nds
theorem NdAt.kid {w : World} {b o : Nat} {x : Nd} (h : NdAt w b o x) {q : Nat} (hq : q < 4) : w.cell? ⟨b, o + 1 + q, none⟩ = some (.int .i64 (x.kid q)) := by
 obtain ⟨h1, h2, h3, h4, h5⟩ := h
 match q, hq with
 | 0, _ => exact h2
 | 1, _ => exact h3
 | 2, _ => exact h4
 | 3, _ => exact h5
theorem kidB_neg (l : List Nd) (v k : Int) (h : k < 0) : kidB l v k = false := by
 unfold kidB
 split
 ·
  exact decide_eq_false (by omega)
 ·
  exact decide_eq_false (by omega)
theorem loose_no {l : List Nd} {k : Nat} (hk : k < l.length) (h : fitB (l.take k) (at_ l k) = false) : false = looseB l := by
 cases hq : looseB l
 ·
  rfl
 ·
  have := loose_iff.1 hq k hk
  rw [h] at this
  cases this
set_option maxRecDepth 100000 in
set_option maxHeartbeats 3200000 in
theorem rloose_any (A : Option Addr) (c : Nat) (l : List Nd) (w : World) (h : Ns w A c l) :
  Calls Tryz.prog 35 #[.slice A l.length c] w fun e w' => e = .returned (.bool (looseB l)) ∧ ∃ m, w' = w.drewN m := by
 have hcap := h.cap
 obtain ⟨R, hR⟩ : ∃ R, R = looseB l := ⟨_, rfl⟩
 rw [← hR]
 have HR := Lib.hid hR
 have HN := Lib.hid h
 clear hR h
 obtain ⟨n, hn⟩ : ∃ n, n = l.length := ⟨_, rfl⟩
 rw [← hn] at hcap ⊢
 have HL := Lib.hid hn
 clear hn
 go_enter Tryz.func35, Tryz.ntmps35
 go_wp2
 go_loopw [3, 4, 5] (fun i z1 z2 wr => ∃ (k : Nat) (v1 v2 : Value) (nd : Nat), wr = w.drewN nd ∧ k ≤ n ∧ i = .int .i64 k ∧ z1 = v1 ∧ z2 = v2 ∧ (∀ j, j < k → fitB (l.take j) (at_ l j) = true)) (fun i _ _ _ => n - (intOf i).toNat)
 case atStart => exact ⟨0, _, _, 0, rfl, by omega, rfl, rfl, rfl, fun j hj => by omega⟩
 case round =>
  obtain ⟨k, v1, v2, nd, rfl, hk, rfl, rfl, rfl, hall⟩ := hrel
  have HA := Lib.hid hall
  clear hall
  by_cases hlt : k < n
  ·
   obtain ⟨b, off, rfl, hb, hc⟩ := HN.out.at_ (by rw [← HL.out]; omega)
   have hck := hc k (by rw [← HL.out]; omega)
   obtain ⟨c1, -, -, -, -⟩ := id hck
   have HC := Lib.hid hc
   have HCK := Lib.hid hck
   clear hc hck
   obtain ⟨x, hx⟩ : ∃ x, x = at_ l k := ⟨_, rfl⟩
   rw [← hx] at c1
   have HX := Lib.hid hx
   clear hx
   have i1 : (k : Int) < (n : Int) := by omega
   by_cases hv : 1 ≤ x.lv ∧ x.lv ≤ 1329
   ·
    obtain ⟨hv1, hv2⟩ := hv
    obtain ⟨wo, hwo⟩ : ∃ wo : World, wo = w.drewN nd := ⟨_, rfl⟩
    have c1' : wo.cell? ⟨b, off + k * 5, none⟩ = some (.int .i64 x.lv) := by rw [hwo]; exact c1
    have HW := Lib.hid hwo
    rw [← hwo]
    clear hwo c1
    go_wp2
    go_loopw [4, 5] (fun i z wr => ∃ (q : Nat) (v : Value) (m : Nat), wr = wo.drewN m ∧ q ≤ 4 ∧ i = .int .i64 q ∧ z = v ∧ ∀ j, j < q → kidB (l.take k) x.lv (x.kid j) = true) (fun i _ _ => 4 - (intOf i).toNat)
    case atStart => exact ⟨0, _, 0, rfl, by omega, rfl, rfl, fun j hj => by omega⟩
    case round =>
     obtain ⟨q, v, m, rfl, hq, rfl, rfl, hkq⟩ := hrel
     have HQ := Lib.hid hkq
     clear hkq
     by_cases hq4 : q < 4
     ·
      have hy := HCK.out.kid hq4
      have hwk := (HN.out.wf (i := k) (by rw [← HL.out]; exact hlt)).kid q
      rw [← HX.out] at hy hwk
      have hy' : wo.cell? ⟨b, off + k * 5 + 1 + q, none⟩ = some (.int .i64 (x.kid q)) := by rw [HW.out]; exact hy
      obtain ⟨y, hye⟩ : ∃ y, y = x.kid q := ⟨_, rfl⟩
      rw [← hye] at hy' hwk
      obtain ⟨hw1, hw2⟩ := hwk
      have HY := Lib.hid hye
      clear hy hye
      have i2 : (q : Int) < 4 := by omega
      by_cases hn : y < 0
      ·
       have HB := Lib.hid (show kidB (l.take k) x.lv (x.kid q) = false by rw [← HY.out]; exact kidB_neg _ _ _ hn)
       have t1 : decide (y < 0) = true := decide_eq_true hn
       go_wp2
       go_ret
       refine ⟨nd_b ?_, by rw [HW.out]; first | exact ⟨_, rfl⟩ | exact ⟨_, World.drewN_drewN _ _ _⟩ | (simp only [World.drewN_drewN]; exact ⟨_, rfl⟩)⟩
       rw [HR.out]
       exact loose_no (k := k) (by rw [← HL.out]; exact hlt) (by rw [← HX.out]; exact fitB_kid hq4 HB.out)
      ·
       have t1 : decide (y < 0) = false := decide_eq_false hn
       by_cases hl1 : x.lv = 1
       ·
        have t2 : (x.lv == 1) = true := by rw [beq_iff_eq]; exact hl1
        have t3 : decide (1 < x.lv) = false := decide_eq_false (by omega)
        by_cases hy255 : y ≤ 255
        ·
         have HB := Lib.hid (show kidB (l.take k) x.lv (x.kid q) = true by rw [← HY.out, hl1, kidB_one]; exact decide_eq_true (by omega))
         have t4 : decide (255 < y) = false := decide_eq_false (by omega)
         clear hl1
         go_wp2
         go_quiet (fail)
         go_wp2
         go_roundw
         case rel =>
          refine ⟨q + 1, _, _, rfl, by omega, by go_num, rfl, fun j hj => ?_⟩
          rcases Nat.lt_or_ge j q with h1 | h1
          ·
           exact HQ.out j h1
          ·
           rw [show j = q by omega]; exact HB.out
         case measure => simp [intOf]; omega
        ·
         have HB := Lib.hid (show kidB (l.take k) x.lv (x.kid q) = false by rw [← HY.out, hl1, kidB_one]; exact decide_eq_false (by omega))
         have t4 : decide (255 < y) = true := decide_eq_true (by omega)
         clear hl1
         go_wp2
         go_ret
         refine ⟨nd_b ?_, by rw [HW.out]; first | exact ⟨_, rfl⟩ | exact ⟨_, World.drewN_drewN _ _ _⟩ | (simp only [World.drewN_drewN]; exact ⟨_, rfl⟩)⟩
         rw [HR.out]
         exact loose_no (k := k) (by rw [← HL.out]; exact hlt) (by rw [← HX.out]; exact fitB_kid hq4 HB.out)
       ·
        have t2 : (x.lv == 1) = false := beq_eq_false_iff_ne.2 hl1
        have t3 : decide (1 < x.lv) = true := decide_eq_true (by omega)
        rcases (show y = 0 ∨ (0 < y ∧ (k : Int) < y) ∨ (0 < y ∧ y ≤ (k : Int)) by omega) with h0 | ⟨h0, h1⟩ | ⟨h0, h1⟩
        ·
         have HB := Lib.hid (show kidB (l.take k) x.lv (x.kid q) = true by rw [← HY.out, h0]; exact kidB_zero _ _ hl1)
         have t4 : decide (0 < y) = false := decide_eq_false (by omega)
         clear hl1 h0
         go_wp2
         go_quiet (fail)
         go_wp2
         go_roundw
         case rel =>
          refine ⟨q + 1, _, _, rfl, by omega, by go_num, rfl, fun j hj => ?_⟩
          rcases Nat.lt_or_ge j q with h1 | h1
          ·
           exact HQ.out j h1
          ·
           rw [show j = q by omega]; exact HB.out
         case measure => simp [intOf]; omega
        ·
         have HB := Lib.hid (show kidB (l.take k) x.lv (x.kid q) = false by rw [← HY.out]; exact kidB_out _ _ _ hl1 (.inr (by rw [List.length_take, ← HL.out]; omega)))
         have t4 : decide (0 < y) = true := decide_eq_true h0
         have t5 : decide ((k : Int) < y) = true := decide_eq_true h1
         clear hl1
         go_wp2
         go_quiet (fail)
         go_wp2
         go_ret
         refine ⟨nd_b ?_, by rw [HW.out]; first | exact ⟨_, rfl⟩ | exact ⟨_, World.drewN_drewN _ _ _⟩ | (simp only [World.drewN_drewN]; exact ⟨_, rfl⟩)⟩
         rw [HR.out]
         exact loose_no (k := k) (by rw [← HL.out]; exact hlt) (by rw [← HX.out]; exact fitB_kid hq4 HB.out)
        ·
         have t4 : decide (0 < y) = true := decide_eq_true h0
         have t5 : decide ((k : Int) < y) = false := decide_eq_false (by omega)
         obtain ⟨p, rfl⟩ : ∃ p : Nat, y = (p : Int) + 1 := ⟨(y - 1).toNat, by omega⟩
         have hpk : p < k := by omega
         have cp : wo.cell? ⟨b, off + p * 5, none⟩ = some (.int .i64 (at_ l p).lv) := by rw [HW.out]; exact (HC.out p (by rw [← HL.out]; omega)).1
         have e1 : IntKind.i64.wrap ((p : Int) + 1 - 1) = (p : Int) := by rw [show (p : Int) + 1 - 1 = (p : Int) by omega]; exact IntWalk.i64_in _ (by omega)
         have e2 : IntKind.i64.wrap (x.lv - 1) = x.lv - 1 := IntWalk.i64_in _ (by omega)
         have i3 : (p : Int) < (n : Int) := by omega
         have i4 : (0 : Int) ≤ (p : Int) := by omega
         by_cases hu : (at_ l p).lv = x.lv - 1
         ·
          have HB := Lib.hid (show kidB (l.take k) x.lv (x.kid q) = true by rw [← HY.out, kidB_in _ _ _ hl1 (by rw [List.length_take, ← HL.out]; omega), at_take hpk]; exact decide_eq_true hu)
          have t6 : ((at_ l p).lv != x.lv - 1) = false := by rw [hu]; simp
          generalize (at_ l p).lv = u at *
          clear hl1 hu
          go_wp2
          go_quiet (fail)
          go_wp2
          go_roundw
          case rel =>
           refine ⟨q + 1, _, _, rfl, by omega, by go_num, rfl, fun j hj => ?_⟩
           rcases Nat.lt_or_ge j q with h1 | h1
           ·
            exact HQ.out j h1
           ·
            rw [show j = q by omega]; exact HB.out
          case measure => simp [intOf]; omega
         ·
          have HB := Lib.hid (show kidB (l.take k) x.lv (x.kid q) = false by rw [← HY.out, kidB_in _ _ _ hl1 (by rw [List.length_take, ← HL.out]; omega), at_take hpk]; exact decide_eq_false hu)
          have t6 : ((at_ l p).lv != x.lv - 1) = true := by rw [bne_iff_ne]; exact hu
          generalize (at_ l p).lv = u at *
          clear hl1 hu
          go_wp2
          go_quiet (fail)
          go_wp2
          go_ret
          refine ⟨nd_b ?_, by rw [HW.out]; first | exact ⟨_, rfl⟩ | exact ⟨_, World.drewN_drewN _ _ _⟩ | (simp only [World.drewN_drewN]; exact ⟨_, rfl⟩)⟩
          rw [HR.out]
          exact loose_no (k := k) (by rw [← HL.out]; exact hlt) (by rw [← HX.out]; exact fitB_kid hq4 HB.out)
     ·
      go_wp2
      go_roundw
      case rel =>
       refine ⟨k + 1, _, _, _, by rw [HW.out, World.drewN_drewN], by omega, by go_num, rfl, rfl, fun j hj => ?_⟩
       rcases Nat.lt_or_ge j k with h1 | h1
       ·
        exact HA.out j h1
       ·
        rw [show j = k by omega, ← HX.out]
        exact fitB_yes ⟨hv1, hv2⟩ (fun j hj => HQ.out j (by omega))
      case measure => simp [intOf]; omega
   ·
    have hr : R = false := HR.out.trans (loose_no (k := k) (by rw [← HL.out]; exact hlt) (by rw [← HX.out]; exact fitB_no hv)).symm
    subst hr
    rcases (show x.lv < 1 ∨ (1 ≤ x.lv ∧ 1329 < x.lv) by omega) with h | ⟨h, h3⟩
    all_goals
     go_wp2
     go_ret
     exact ⟨rfl, _, rfl⟩
  ·
   go_wp2
   go_ret
   refine ⟨nd_b ?_, _, rfl⟩
   rw [HR.out]
   exact (loose_iff.2 fun i hi => HA.out i (by rw [← HL.out] at hi; omega)).symm
theorem rloose_at (A : Option Addr) (c n : Nat) (l : List Nd) (w : World) (h : Ns w A c l) (hn : l.length = n) :
  Calls Tryz.prog 35 #[.slice A n c] w fun e w' => e = .returned (.bool (looseB l)) ∧ ∃ m, w' = w.drewN m := by
 subst hn
 exact rloose_any A c l w h
theorem Ns.drewN {w : World} {A : Option Addr} {c : Nat} {l : List Nd} (h : Ns w A c l) (m : Nat) : Ns (w.drewN m) A c l := h
end Go.Proofs.YtmfncapgikobkaaGreat

namespace Go.Proofs.YtmfncapgikobkaaGreat
set_option maxRecDepth 100000
set_option linter.unusedVariables false
set_option linter.unusedSimpArgs false
open Go.RowKit Nds
theorem Tryz.infoT : (Tryz.prog.info? 4).map (fun i => (i.zero, i.size, i.bytes)) = some (some (.bool false), 1, 1) := by kernel_rfl
def OwnT (w : World) (base g n : Nat) (bs : List Bool) : Prop :=
 bs.length = n ∧ w.ownsRow base 4 1 (.slice (some ⟨g, 0, none⟩) n n) n (bs.map Value.bool)
theorem OwnT.cell {w : World} {base g n : Nat} {bs : List Bool} (h : OwnT w base g n bs) {k : Nat} (hk : k < n) : w.cell? ⟨g, k, none⟩ = some (.bool (bs.getD k false)) := by
 have hl : k < bs.length := by have := h.1; omega
 rw [h.2.cellAt k (by omega), List.getElem?_map, List.getD_eq_getElem?_getD, List.getElem?_eq_getElem hl]
 rfl
theorem OwnT.free {w : World} {base g n : Nat} {bs : List Bool} (h : OwnT w base g n bs) (k : Nat) : w.frozen? ⟨g, k, none⟩ = false := h.2.frozenAt k
theorem OwnT.set {w : World} {base g n : Nat} {bs : List Bool} (h : OwnT w base g n bs) (k : Nat) (u : Bool) : OwnT (w.setCell ⟨g, k, none⟩ (.bool u)) base g n (bs.set k u) := by
 refine ⟨by simpa using h.1, ?_⟩
 rw [List.map_set]
 exact (h.2.stored k _).1
theorem madeT (n : Nat) : (madeCells (Value.cells (.bool false)) (n * 1)).toList = (List.replicate n false).map Value.bool := by
 rw [Nat.mul_one]
 refine List.ext_getElem (by simp [madeCells]) fun i h1 h2 => ?_
 simp [madeCells, Value.cells, Nat.mod_one]
theorem OwnT.made {w : World} {base g n : Nat} (h : w.ownsRow base 4 1 (.slice (some ⟨g, 0, none⟩) n n) n (madeCells (Value.cells (.bool false)) (n * 1)).toList) : OwnT w base g n (List.replicate n false) :=
 ⟨by simp, by rw [← madeT]; exact h⟩
theorem OwnT.lt {w : World} {base g n : Nat} {bs : List Bool} (h : OwnT w base g n bs) : g < w.heap.size := (h.2.lt g rfl).2
def RetTm (l : List Nd) (n : Nat) (w : World) (e : Ending) (w' : World) : Prop :=
 ∃ g, e = .returned (.slice (some ⟨g, 0, none⟩) (n + 1) (n + 1)) ∧ w.heap.size ≤ g ∧ g < w'.heap.size ∧ (∀ j, j ≤ n → w'.cell? ⟨g, j, none⟩ = some (.bool (empB l j))) ∧ Below w.heap.size w w'
def eachTo (x : Nd) (p : Int → Bool) : Nat → Bool
 | 0 => true
 | q + 1 => eachTo x p q && p (x.kid q)
theorem eachTo_4 (x : Nd) (p : Int → Bool) : eachTo x p 4 = x.each p := by
 unfold Nd.each
 show ((((true && p x.a) && p x.b) && p x.c) && p x.d) = _
 rw [Bool.true_and]
def kidE (es : List Bool) (v c : Int) : Bool := c == 0 || (decide (1 < v) && es.getD c.toNat false)
set_option maxRecDepth 100000 in
set_option maxHeartbeats 3200000 in
theorem empties_any (A : Option Addr) (c n : Nat) (l : List Nd) (w : World) (h : Ns w A c l) (hn : l.length = n) (hl : looseB l = true) (hn9 : n ≤ 1000000) :
  Calls Tryz.prog 38 #[.slice A n c] w (RetTm l n w) := by
 have hcap := h.cap
 rw [hn] at hcap
 obtain ⟨i0, hi, hz0, hz1, hz2⟩ := info_parts Tryz.infoT
 have HI := Lib.hid (And.intro hi (And.intro hz0 (And.intro hz1 hz2)))
 have HN := Lib.hid h
 have HL := Lib.hid hn
 have HLL := Lib.hid hl
 clear h hn hl hi hz0 hz1 hz2
 go_enter Tryz.func38, Tryz.ntmps38
 go_wp2_with (first
   | (at_make; refine wpList_make_full _ rfl _ _ 70 rfl w.heap.size 4 i0 _ 1 Tryz.underlying70 HI.out.1 HI.out.2.1 HI.out.2.2.1 .i64 .i64 _ _ (n + 1) rfl rfl (by omega) (by omega) (by rw [HI.out.2.2.2]; omega) (by unfold maxLen; omega) (Nat.le_refl _) ?_; intro w0 hown0 hgrow0; have own0 := OwnT.made hown0; have ec := own0.cell (k := 0) (by omega); have fc := own0.free 0; have OW := Lib.hid own0; have GW := Lib.hid hgrow0; clear hown0 hgrow0 own0))
 have HG0 := Lib.hid (show Below w.heap.size w (w0.setCell ⟨w.heap.size, 0, none⟩ (.bool true)) from ((Below.refl _ _).grown GW.out (Nat.le_refl _) (fun k hk => by cases hk)).setCell (Nat.le_refl _) _)
 have HO0 := Lib.hid (OW.out.set 0 true)
 have HT0 := Lib.hid (show ((List.replicate (n + 1) false).set 0 true).take (0 + 1) = emps (l.take 0) by simp [List.replicate_succ, emps])
 clear ec fc
 obtain ⟨g, hg⟩ : ∃ g, g = w.heap.size := ⟨_, rfl⟩
 have HG := Lib.hid hg
 rw [← hg] at HG0 HO0 ⊢
 generalize hW : w0.setCell _ _ = W at *
 clear hW
 go_loopw [4, 5, 6, 7] (fun i z1 z2 z3 wr => ∃ (k : Nat) (v1 v2 v3 : Value) (bs : List Bool), k ≤ n ∧ i = .int .i64 k ∧ z1 = v1 ∧ z2 = v2 ∧ z3 = v3 ∧ OwnT wr g g (n + 1) bs ∧ bs.take (k + 1) = emps (l.take k) ∧ Below g w wr) (fun i _ _ _ _ => n - (intOf i).toNat)
 case atStart => exact ⟨0, _, _, _, _, by omega, rfl, rfl, rfl, rfl, HO0.out, HT0.out, HG0.out⟩
 case round =>
  obtain ⟨k, v1, v2, v3, bs, hk, rfl, rfl, rfl, rfl, hown, htk, hbw⟩ := hrel
  have HO := Lib.hid hown
  have HT := Lib.hid htk
  clear hown htk
  by_cases hlt : k < n
  ·
   obtain ⟨b, off, rfl, hb, hc⟩ := HN.out.at_ (by rw [HL.out]; omega)
   have hck := (hc k (by rw [HL.out]; exact hlt)).below (hbw.block b (by rw [HG.out]; exact hb))
   have HCK := Lib.hid hck
   have hkl : k < l.length := by rw [HL.out]; exact hlt
   have hfx := Lib.hid (loose_iff.1 HLL.out k hkl)
   obtain ⟨c1, -, -, -, -⟩ := id hck
   have HKL := Lib.hid hkl
   clear hc hck hkl
   obtain ⟨x, hx⟩ : ∃ x, x = at_ l k := ⟨_, rfl⟩
   rw [← hx] at c1 hfx HCK
   have HX := Lib.hid hx
   have hxv := fit_lv hfx.out
   have i1 : (k : Int) < (n : Int) := by omega
   clear hx hg
   go_wp2_with fail
   obtain ⟨wo, hwo⟩ : ∃ wo : World, wo = wr := ⟨_, rfl⟩
   subst hwo
   go_loop [6, 5, 7] (fun i z y => ∃ (q : Nat) (v : Value), q ≤ 4 ∧ i = .int .i64 q ∧ y = v ∧ z = .bool (eachTo x (kidE (emps (l.take k)) x.lv) q)) (fun i _ _ => 4 - (intOf i).toNat)
   case atStart => exact ⟨0, _, by omega, rfl, rfl, rfl⟩
   case round =>
    obtain ⟨q, v, hq, rfl, rfl, rfl⟩ := hrel
    by_cases hq4 : q < 4
    ·
     have hy := HCK.out.kid hq4
     have hfk := fit_kid hfx.out hq4
     obtain ⟨y, hye⟩ : ∃ y, y = x.kid q := ⟨_, rfl⟩
     rw [← hye] at hy hfk
     have HY := Lib.hid hye
     have i2 : (q : Int) < 4 := by omega
     clear hye
     cases hbb : eachTo x (kidE (emps (l.take k)) x.lv) q with
     | false =>
      have HB := Lib.hid hbb
      clear hbb
      go_wp2_with fail
      go_round
      case rel =>
       refine ⟨q + 1, _, by omega, by go_num, rfl, ?_⟩
       show _ = Value.bool (eachTo x (kidE (emps (l.take k)) x.lv) q && kidE (emps (l.take k)) x.lv (x.kid q))
       rw [HB.out, Bool.false_and]
      case measure => simp [intOf]; omega
     | true =>
      have HB := Lib.hid hbb
      clear hbb
      by_cases hy0 : y = 0
      ·
       subst hy0
       have HV := Lib.hid (show kidE (emps (l.take k)) x.lv 0 = true from rfl)
       clear hfk
       go_wp2_with fail
       go_round
       case rel =>
        refine ⟨q + 1, _, by omega, by go_num, rfl, ?_⟩
        show _ = Value.bool (eachTo x (kidE (emps (l.take k)) x.lv) q && kidE (emps (l.take k)) x.lv (x.kid q))
        rw [HB.out, ← HY.out, HV.out]; rfl
       case measure => simp [intOf]; omega
      ·
       have t1 : (y == 0) = false := beq_eq_false_iff_ne.2 hy0
       by_cases hv1 : x.lv = 1
       ·
        have HV := Lib.hid (show kidE (emps (l.take k)) x.lv y = false by unfold kidE; rw [t1, decide_eq_false (by omega)]; rfl)
        have t2 : decide (1 < x.lv) = false := decide_eq_false (by omega)
        clear hfk hy0 hv1
        go_wp2_with fail
        go_round
        case rel =>
         refine ⟨q + 1, _, by omega, by go_num, rfl, ?_⟩
         show _ = Value.bool (eachTo x (kidE (emps (l.take k)) x.lv) q && kidE (emps (l.take k)) x.lv (x.kid q))
         rw [HB.out, ← HY.out, HV.out]; rfl
        case measure => simp [intOf]; omega
       ·
        have t2 : decide (1 < x.lv) = true := decide_eq_true (by omega)
        rcases kid_up hv1 hfk with h0 | ⟨p, rfl, hp, _⟩
        ·
         exact absurd h0 hy0
        ·
         have hpk : p < k := Nat.lt_of_lt_of_le hp (List.length_take_le _ _)
         have e1 : bs.getD (p + 1) false = (emps (l.take k)).getD (p + 1) false := by
          rw [← HT.out, List.getD_eq_getElem?_getD, List.getD_eq_getElem?_getD, List.getElem?_take, if_pos (by omega)]
         have ec := HO.out.cell (k := p + 1) (by omega)
         rw [e1] at ec
         have HV := Lib.hid (show kidE (emps (l.take k)) x.lv ((p : Int) + 1) = (emps (l.take k)).getD (p + 1) false by
          unfold kidE
          rw [t1, t2, show ((p : Int) + 1).toNat = p + 1 by omega]
          rfl)
         have i3 : (p : Int) + 1 < (n : Int) + 1 := by omega
         clear hfk hy0 hv1 hp e1
         generalize hz : (emps (l.take k)).getD (p + 1) false = z at *
         clear hz
         cases z with
         | true =>
          go_wp2_with fail
          go_round
          case rel =>
           refine ⟨q + 1, _, by omega, by go_num, rfl, ?_⟩
           show _ = Value.bool (eachTo x (kidE (emps (l.take k)) x.lv) q && kidE (emps (l.take k)) x.lv (x.kid q))
           rw [HB.out, ← HY.out, HV.out]; rfl
          case measure => simp [intOf]; omega
         | false =>
          go_wp2_with fail
          go_round
          case rel =>
           refine ⟨q + 1, _, by omega, by go_num, rfl, ?_⟩
           show _ = Value.bool (eachTo x (kidE (emps (l.take k)) x.lv) q && kidE (emps (l.take k)) x.lv (x.kid q))
           rw [HB.out, ← HY.out, HV.out]; rfl
          case measure => simp [intOf]; omega
    ·
     have hq5 : q = 4 := by omega
     have HE := Lib.hid (show eachTo x (kidE (emps (l.take k)) x.lv) q = nodeE (emps (l.take k)) x by rw [hq5, eachTo_4]; rfl)
     have fc := HO.out.free (k + 1)
     have ec := HO.out.cell (k := k + 1) (by omega)
     have HS := Lib.hid (HO.out.set (k + 1) (nodeE (emps (l.take k)) x))
     rw [HE.out]
     clear hq5
     go_wp2_with fail
     go_roundw
     case rel =>
      refine ⟨k + 1, _, _, _, _, by omega, by go_num, rfl, rfl, rfl, HS.out, ?_, hbw.setCell (Nat.le_refl _) _⟩
      have hlen := HO.out.1
      rw [take_at HKL.out, emps_snoc, ← HX.out, ← HT.out, List.take_succ_eq_append_getElem (by simp; omega)]
      congr 1
      ·
       rw [List.take_set_of_le (by omega)]
      ·
       rw [List.getElem_set_self]
     case measure => simp [intOf]; omega
  ·
   have hkn : k = n := by omega
   have HKN := Lib.hid hkn
   have hgl := HO.out.lt
   clear hkn hg
   go_wp2_with fail
   go_ret
   refine ⟨g, rfl, by rw [HG.out]; exact Nat.le_refl _, hgl, fun j hj => ?_, by rw [← HG.out]; exact hbw⟩
   rw [HO.out.cell (k := j) (by omega)]
   unfold empB
   have e1 := HT.out
   rw [HKN.out, List.take_of_length_le (by rw [HO.out.1]; omega), List.take_of_length_le (by rw [HL.out]; omega)] at e1
   rw [e1]
end Go.Proofs.YtmfncapgikobkaaGreat

namespace Go.Proofs.YtmfncapgikobkaaGreat
set_option maxRecDepth 100000
set_option linter.unusedVariables false
set_option linter.unusedSimpArgs false
open Go.RowKit Nds
set_option maxRecDepth 100000 in
set_option maxHeartbeats 1600000 in
theorem rempty_any (A : Option Addr) (c n : Nat) (l : List Nd) (k : Nat) (w : World) (h : Ns w A c l) (hn : l.length = n) (hl : looseB l = true) (hn9 : n ≤ 1000000) (hk : k ≤ n) :
  Calls Tryz.prog 66 #[.slice A n c, .int .i64 (k : Int)] w fun e w' => e = .returned (.bool (empB l k)) ∧ Below w.heap.size w w' := by
 have HN := Lib.hid h
 have HL := Lib.hid hn
 have HLL := Lib.hid hl
 have i1 : (k : Int) < (n : Int) + 1 := by omega
 clear h hn hl
 go_enter Tryz.func66, Tryz.ntmps66
 go_wp2_with (go_at_call 38; refine (empties_any _ _ n l _ HN.out HL.out HLL.out hn9).mono ?_; rintro e w1 ⟨g, rfl, hg1, hg2, hg3, hb⟩; have hc := hg3 k hk; clear hg3; have HB := Lib.hid hb; clear hb)
 go_ret
 exact ⟨rfl, HB.out⟩
theorem rim_at {x : Nd} {k q : Nat} (hk : k < 4) (hq : q < 4) : (rim x k).kid q = if q + k = 3 then 0 else x.kid q := by
 match k, q, hk, hq with
 | 0, 0, _, _ => rfl
 | 0, 1, _, _ => rfl
 | 0, 2, _, _ => rfl
 | 0, 3, _, _ => rfl
 | 1, 0, _, _ => rfl
 | 1, 1, _, _ => rfl
 | 1, 2, _, _ => rfl
 | 1, 3, _, _ => rfl
 | 2, 0, _, _ => rfl
 | 2, 1, _, _ => rfl
 | 2, 2, _, _ => rfl
 | 2, 3, _, _ => rfl
 | 3, 0, _, _ => rfl
 | 3, 1, _, _ => rfl
 | 3, 2, _, _ => rfl
 | 3, 3, _, _ => rfl
theorem rim_emp_no {l : List Nd} {z : Nd} {k q : Nat} (hk : k < 4) (hq : q < 4) (h : kidE (emps l) z.lv ((rim z k).kid q) = false) : nodeEmp l (rim z k) = false := by
 unfold nodeEmp nodeE
 exact each_no hq (by rw [rim_lv]; exact h)
theorem rim_emp_yes {l : List Nd} {z : Nd} {k : Nat} (h : ∀ q, q < 4 → kidE (emps l) z.lv ((rim z k).kid q) = true) : nodeEmp l (rim z k) = true := by
 unfold nodeEmp nodeE
 exact each_iff.2 fun q hq => by rw [rim_lv]; exact h q hq
set_option maxRecDepth 100000 in
set_option maxHeartbeats 3200000 in
theorem rhollow_any (A : Option Addr) (c n : Nat) (l : List Nd) (k : Nat) (w : World) (h : Ns w A c l) (hn : l.length = n) (hl : looseB l = true) (hn9 : n ≤ 1000000) (hk : k ≤ n) :
  Calls Tryz.prog 52 #[.slice A n c, .int .i64 (k : Int)] w fun e w' => e = .returned (.bool (hollowB l k)) ∧ Below w.heap.size w w' := by
 have hcap := h.cap
 rw [hn] at hcap
 have HN := Lib.hid h
 have HL := Lib.hid hn
 clear h hn
 rcases (show k = 0 ∨ ∃ m, k = m + 1 by cases k with | zero => exact .inl rfl | succ m => exact .inr ⟨m, rfl⟩) with rfl | ⟨m, rfl⟩
 ·
  rw [show hollowB l 0 = false by unfold hollowB; rw [decide_eq_false (by omega)]; rfl]
  go_enter Tryz.func52, Tryz.ntmps52
  go_wp2_with fail
  go_ret
  exact ⟨rfl, Below.refl _ _⟩
 ·
  have hml : m < l.length := by rw [HL.out]; omega
  obtain ⟨R, hR⟩ : ∃ R, R = hollowB l (m + 1) := ⟨_, rfl⟩
  rw [← hR]
  have HR := Lib.hid hR
  clear hR
  obtain ⟨b, off, rfl, hb, hc⟩ := HN.out.at_ (by omega)
  have hck := hc m hml
  obtain ⟨c1, -, -, -, -⟩ := id hck
  have HCK := Lib.hid hck
  have hfx := Lib.hid (loose_iff.1 hl m hml)
  have HC := Lib.hid hc
  have HLL := Lib.hid hl
  have HML := Lib.hid hml
  have i1 : (m : Int) < (n : Int) := by omega
  clear hc hl hml hck
  obtain ⟨x, hx⟩ : ∃ x, x = at_ l m := ⟨_, rfl⟩
  rw [← hx] at c1 hfx HCK
  have HX := Lib.hid hx
  have hxv := fit_lv hfx.out
  have t1 : (((m + 1 : Nat) : Int) == 0) = false := beq_eq_false_iff_ne.2 (by omega)
  have e1 : (((m + 1 : Nat) : Int)) = (m : Int) + 1 := by omega
  rw [e1] at t1 ⊢
  clear hx e1
  by_cases h2 : x.lv < 2
  ·
   have hr : R = false := by
    rw [HR.out]
    unfold hollowB
    rw [decide_eq_false (by rw [show m + 1 - 1 = m by omega, ← HX.out]; omega)]
    rfl
   subst hr
   go_enter Tryz.func52, Tryz.ntmps52
   go_wp2_with fail
   go_ret
   exact ⟨rfl, Below.refl _ _⟩
  ·
   have hr : R = (List.range 4).all fun i => decide (x.kid i = 0) || nodeEmp l (rim (at_ l ((x.kid i).toNat - 1)) i) := by
    rw [HR.out]
    unfold hollowB
    rw [show m + 1 - 1 = m by omega, ← HX.out, decide_eq_true (by omega)]
    rfl
   have HR2 := Lib.hid hr
   clear hr HR
   go_enter Tryz.func52, Tryz.ntmps52
   go_wp2_with (go_at_call 38; refine (empties_any _ _ n l _ HN.out HL.out HLL.out hn9).mono ?_; rintro e w1 ⟨g, rfl, hg1, hg2, hg3, hbw⟩; have HE := Lib.hid hg3; clear hg3; have HB := Lib.hid hbw; clear hbw)
   have c1' := (HB.out.cell (p := ⟨b, off + m * 5, none⟩) hb).trans c1
   have HCK1 := Lib.hid (HCK.out.below (HB.out.block b hb))
   have HC1 := Lib.hid (show ∀ i, i < l.length → NdAt w1 b (off + i * 5) (at_ l i) from fun i hi => (HC.out i hi).below (HB.out.block b hb))
   clear c1
   go_loop [6, 7, 8, 9] (fun i z1 z2 z3 => ∃ (k : Nat) (v1 v2 v3 : Value), k ≤ 4 ∧ i = .int .i64 k ∧ z1 = v1 ∧ z2 = v2 ∧ z3 = v3 ∧ (∀ j, j < k → (decide (x.kid j = 0) || nodeEmp l (rim (at_ l ((x.kid j).toNat - 1)) j)) = true)) (fun i _ _ _ => 4 - (intOf i).toNat)
   case atStart => exact ⟨0, _, _, _, by omega, rfl, rfl, rfl, rfl, fun j hj => by omega⟩
   case round =>
    obtain ⟨k, v1, v2, v3, hk4, rfl, rfl, rfl, rfl, hall⟩ := hrel
    have HA := Lib.hid hall
    clear hall
    by_cases hlt : k < 4
    ·
     have hy := HCK1.out.kid hlt
     have hfk := kid_mono (fit_kid hfx.out hlt)
     obtain ⟨y, hye⟩ : ∃ y, y = x.kid k := ⟨_, rfl⟩
     rw [← hye] at hy hfk
     have HY := Lib.hid hye
     have i2 : (k : Int) < 4 := by omega
     have i0 : (0 : Int) ≤ (k : Int) := by omega
     clear hye
     rcases kid_up (by omega) hfk with rfl | ⟨p, rfl, hp, hpl⟩
     ·
      clear hfk
      go_wp2_with fail
      refine wp_loop_rounds 1 ?_
      rw [rounds_succ]
      go_wp2_with fail
      go_round
      case rel =>
       refine ⟨k + 1, _, _, _, by omega, by go_num, rfl, rfl, rfl, fun j hj => ?_⟩
       rcases Nat.lt_or_ge j k with h3 | h3
       ·
        exact HA.out j h3
       ·
        rw [show j = k by omega, ← HY.out]; rfl
      case measure => simp [intOf]; omega
     ·
      have hpn : p < n := by rw [← HL.out]; exact hp
      have HCP := Lib.hid (HC1.out p hp)
      have hfz := Lib.hid (loose_fit HLL.out hp)
      clear hfk
      obtain ⟨z, hz⟩ : ∃ z, z = at_ l p := ⟨_, rfl⟩
      rw [← hz] at hfz HCP hpl
      have HZ := Lib.hid hz
      have hzv := fit_lv hfz.out
      have i3 : (p : Int) < (n : Int) := by omega
      have i4 : (0 : Int) < (p : Int) + 1 := by omega
      have e5 : rim (at_ l ((x.kid k).toNat - 1)) k = rim z k := by rw [← HY.out, show ((p : Int) + 1).toNat - 1 = p by omega, HZ.out]
      have E5 := Lib.hid e5
      clear hz e5
      go_wp2_with fail
      go_loop [8, 9] (fun i z3 => ∃ (q : Nat) (v3 : Value), q ≤ 4 ∧ i = .int .i64 q ∧ z3 = v3 ∧ (∀ j, j < q → kidE (emps l) z.lv ((rim z k).kid j) = true)) (fun i _ => 4 - (intOf i).toNat)
      case atStart => exact ⟨0, _, by omega, rfl, rfl, fun j hj => by omega⟩
      case round =>
       obtain ⟨q, v3, hq4, rfl, rfl, hkq⟩ := hrel
       have HQ := Lib.hid hkq
       clear hkq
       by_cases hqlt : q < 4
       ·
        have hgc := HCP.out.kid hqlt
        have hfg := fit_kid hfz.out hqlt
        have hrk := rim_at (x := z) hlt hqlt
        obtain ⟨u, hu⟩ : ∃ u, u = z.kid q := ⟨_, rfl⟩
        rw [← hu] at hgc hfg hrk
        have HRK := Lib.hid hrk
        have j0 : (0 : Int) ≤ (q : Int) := by omega
        have j1 : (q : Int) < 4 := by omega
        clear hu hrk
        by_cases h3 : q + k = 3
        ·
         have t2 : ((q : Int) != 3 - (k : Int)) = false := by rw [show (q : Int) = 3 - (k : Int) by omega]; simp
         have HV := Lib.hid (show kidE (emps l) z.lv ((rim z k).kid q) = true by rw [HRK.out, if_pos h3]; rfl)
         clear hfg h3
         go_wp2_with fail
         go_round
         case rel =>
          refine ⟨q + 1, _, by omega, by go_num, rfl, fun j hj => ?_⟩
          rcases Nat.lt_or_ge j q with h4 | h4
          ·
           exact HQ.out j h4
          ·
           rw [show j = q by omega]; exact HV.out
         case measure => simp [intOf]; omega
        ·
         have t2 : ((q : Int) != 3 - (k : Int)) = true := by rw [bne_iff_ne]; omega
         by_cases hx2 : x.lv = 2
         ·
          have t3 : (x.lv == 2) = true := by rw [beq_iff_eq]; exact hx2
          have t4 : decide (2 < x.lv) = false := decide_eq_false (by omega)
          by_cases hu0 : u = 0
          ·
           subst hu0
           have HV := Lib.hid (show kidE (emps l) z.lv ((rim z k).kid q) = true by rw [HRK.out, if_neg h3]; rfl)
           clear hfg h3 hx2
           go_wp2_with fail
           go_round
           case rel =>
            refine ⟨q + 1, _, by omega, by go_num, rfl, fun j hj => ?_⟩
            rcases Nat.lt_or_ge j q with h4 | h4
            ·
             exact HQ.out j h4
            ·
             rw [show j = q by omega]; exact HV.out
           case measure => simp [intOf]; omega
          ·
           have t5 : (u != 0) = true := by rw [bne_iff_ne]; exact hu0
           have HV := Lib.hid (show kidE (emps l) z.lv ((rim z k).kid q) = false by rw [HRK.out, if_neg h3]; unfold kidE; rw [beq_eq_false_iff_ne.2 hu0, decide_eq_false (by omega)]; rfl)
           clear hfg h3 hx2 hu0
           go_wp2_with fail
           go_ret
           refine ⟨nd_b ?_, HB.out⟩
           rw [HR2.out]
           refine all4_no (k := k) hlt ?_
           rw [E5.out, rim_emp_no hlt hqlt HV.out, Bool.or_false]
           exact decide_eq_false (by rw [← HY.out]; omega)
         ·
          have t3 : (x.lv == 2) = false := beq_eq_false_iff_ne.2 hx2
          have t4 : decide (2 < x.lv) = true := decide_eq_true (by omega)
          have hv1 : 1 < z.lv := by omega
          have hup : ∃ r : Nat, u = (r : Int) ∧ r ≤ n := by
           rcases kid_up (by omega) hfg with e | ⟨r, e, hr, _⟩
           ·
            exact ⟨0, by rw [e]; rfl, by omega⟩
           ·
            exact ⟨r + 1, by rw [e]; omega, by rw [HL.out] at hr; omega⟩
          obtain ⟨r, rfl, hrn⟩ := hup
          have hec := HE.out r hrn
          have j2 : (r : Int) < (n : Int) + 1 := by omega
          have HV := Lib.hid (show kidE (emps l) z.lv ((rim z k).kid q) = empB l r by
           rw [HRK.out, if_neg h3]
           unfold kidE
           rw [decide_eq_true hv1, Bool.true_and, Int.toNat_natCast]
           by_cases hr0 : r = 0
           ·
            rw [hr0, empB_zero]; rfl
           ·
            rw [beq_eq_false_iff_ne.2 (by omega), Bool.false_or]; rfl)
          clear hfg h3 hx2
          cases hz : empB l r with
          | true =>
           have HZZ := Lib.hid hz
           rw [hz] at hec
           clear hz
           go_wp2_with fail
           go_round
           case rel =>
            refine ⟨q + 1, _, by omega, by go_num, rfl, fun j hj => ?_⟩
            rcases Nat.lt_or_ge j q with h4 | h4
            ·
             exact HQ.out j h4
            ·
             rw [show j = q by omega, HV.out]; exact HZZ.out
           case measure => simp [intOf]; omega
          | false =>
           have HZZ := Lib.hid hz
           rw [hz] at hec
           clear hz
           go_wp2_with fail
           go_ret
           refine ⟨nd_b ?_, HB.out⟩
           rw [HR2.out]
           refine all4_no (k := k) hlt ?_
           rw [E5.out, rim_emp_no hlt hqlt (HV.out.trans HZZ.out), Bool.or_false]
           exact decide_eq_false (by rw [← HY.out]; omega)
       ·
        go_wp2_with fail
        go_round
        case rel =>
         refine ⟨k + 1, _, _, _, by omega, by go_num, rfl, rfl, rfl, fun j hj => ?_⟩
         rcases Nat.lt_or_ge j k with h3 | h3
         ·
          exact HA.out j h3
         ·
          rw [show j = k by omega, E5.out, rim_emp_yes (fun i hi => HQ.out i (by omega)), Bool.or_true]
        case measure => simp [intOf]; omega
    ·
     go_wp2_with fail
     go_ret
     refine ⟨nd_b ?_, HB.out⟩
     rw [HR2.out]
     exact all4_yes fun j hj => HA.out j (by omega)
end Go.Proofs.YtmfncapgikobkaaGreat

namespace Go.Proofs.YtmfncapgikobkaaGreat
set_option maxRecDepth 100000
set_option linter.unusedVariables false
set_option linter.unusedSimpArgs false
open Go.RowKit Nds
theorem Tryz.infoI : (Tryz.prog.info? 3).map (fun i => (i.zero, i.size, i.bytes)) = some (some (.int .i64 0), 1, 8) := by kernel_rfl
def OwnI (w : World) (base : Nat) (v : Value) (xs : List Nat) : Prop := w.ownsRow base 3 1 v xs.length (xs.map fun k : Nat => Value.int .i64 (k : Int))
theorem OwnI.shape {w : World} {base : Nat} {v : Value} {xs : List Nat} (h : OwnI w base v xs) : ∃ A c, v = .slice A xs.length c ∧ xs.length ≤ c ∧ c ≤ 9223372036854775807 ∧
  (0 < xs.length → ∃ g, A = some ⟨g, 0, none⟩ ∧ ∀ j, j < xs.length → w.cell? ⟨g, j, none⟩ = some (.int .i64 ((xs.getD j 0 : Nat) : Int))) := by
 rcases h.2 with ⟨h', hn⟩ | ⟨g, cap, cur, h', hb, hg, hnc, hcm, hcs, htake⟩
 ·
  exact ⟨none, 0, by rw [h', hn], by omega, by omega, fun h => by omega⟩
 ·
  simp only [maxLen] at hcm
  refine ⟨some ⟨g, 0, none⟩, cap, h', hnc, by omega, fun _ => ⟨g, rfl, fun j hj => ?_⟩⟩
  subst h'
  rw [h.cellAt j (by omega), List.getElem?_map, List.getD_eq_getElem?_getD, List.getElem?_eq_getElem hj]
  rfl
theorem OwnI.nil (w : World) (base : Nat) : OwnI w base (.slice none 0 0) [] := World.ownsRow_nil w base _ 1
theorem OwnI.none {w : World} {base : Nat} (h : True) : OwnI w base (.slice none 0 0) [] := OwnI.nil w base
end Go.Proofs.YtmfncapgikobkaaGreat

namespace Go.Proofs.YtmfncapgikobkaaGreat
set_option maxRecDepth 100000
set_option linter.unusedVariables false
set_option linter.unusedSimpArgs false
open Go.RowKit Nds
theorem quad_iff {l : List Nd} (hne : l ≠ []) (hl : looseB l = true) : quadB l = true ↔ (hollowB l l.length = false ∧ (∀ i, i < l.length → empB l (i + 1) = false ∧ at_ l i ∉ l.take i) ∧ endL l 1329 l.length [] = upto l.length) := by
 have hpos : 0 < l.length := List.length_pos_iff.2 hne
 have hv := (fit_lv (loose_iff.1 hl (l.length - 1) (by omega))).2
 have hw := wk_end hl 1329 l.length 0 hpos (Nat.le_refl _) hv hpos
 have h0 : upto 0 = [] := rfl
 rw [h0] at hw
 unfold quadB
 rw [decide_eq_false hne, hl]
 simp only [Bool.false_or, Bool.true_and, Bool.and_eq_true, Bool.not_eq_true', decide_eq_true_iff]
 constructor
 ·
  rintro ⟨hd, hh, hwk⟩
  have hd' := dist_iff.1 hd
  refine ⟨hh, fun i hi => ⟨?_, (hd' i hi).2⟩, ?_⟩
  ·
   rw [emp_at hl hi]
   exact no_empty hl (fun j hj => (hd' j hj).1) i hi
  ·
   rcases hw with ⟨_, h2⟩ | ⟨h1, _⟩
   ·
    exact h2
   ·
    rw [h1] at hwk
    cases hwk
 ·
  rintro ⟨hh, hd, he⟩
  refine ⟨dist_iff.2 fun i hi => ⟨?_, (hd i hi).2⟩, hh, ?_⟩
  ·
   cases hz : (at_ l i).each (· == 0)
   ·
    rfl
   ·
    have h1 := (hd i hi).1
    rw [emp_at hl hi, emp_zero hz] at h1
    cases h1
  ·
   rcases hw with ⟨h1, _⟩ | ⟨_, h2⟩
   ·
    exact h1
   ·
    exact absurd (by rw [he]; exact List.prefix_rfl) (h2 l.length)
theorem at_not_take {l : List Nd} {k : Nat} (hk : k < l.length) (h : ∀ j, j < k → at_ l k ≠ at_ l j) : at_ l k ∉ l.take k := by
 intro hm
 obtain ⟨j, hj⟩ := List.mem_iff_getElem?.1 hm
 have hjl := (List.getElem?_eq_some_iff.1 hj).1
 rw [List.length_take] at hjl
 refine h j (by omega) ?_
 rw [← at_take (l := l) (k := k) (i := j) (by omega)]
 conv => rhs; unfold at_
 rw [hj]
 rfl
end Go.Proofs.YtmfncapgikobkaaGreat

namespace Go.Proofs.YtmfncapgikobkaaGreat
set_option maxRecDepth 100000
set_option linter.unusedVariables false
set_option linter.unusedSimpArgs false
open Go.RowKit Nds
def one5 : List Nd := [⟨1, 0, 0, 0, 1⟩]
def hol5 : List Nd := [⟨1, 0, 0, 0, 1⟩, ⟨2, 1, 0, 0, 0⟩]
def far5 : List Nd := [⟨1, 0, 0, 0, 1⟩, ⟨2, 0, 0, 0, 1⟩]
theorem ns_lit1 (W : World) (g : Nat) (x : Nd) (hx : x.wf) (hg : W.heap.size = g) : Ns (W.alloc (.cells #[.int .i64 x.lv, .int .i64 x.a, .int .i64 x.b, .int .i64 x.c, .int .i64 x.d] 56)) (some ⟨g, 0, none⟩) 1 [x] := by
 subst hg
 refine ⟨by simpa using hx, by simp, by simp [maxLen], fun _ => ⟨_, 0, rfl, by simp, fun i hi => ?_⟩⟩
 have h0 : i = 0 := by simpa using hi
 subst h0
 exact NdAt.new W x _
theorem ns_lit2 (W : World) (g : Nat) (x y : Nd) (hx : x.wf) (hy : y.wf) (hg : W.heap.size = g) : Ns (W.alloc (.cells #[.int .i64 x.lv, .int .i64 x.a, .int .i64 x.b, .int .i64 x.c, .int .i64 x.d, .int .i64 y.lv, .int .i64 y.a, .int .i64 y.b, .int .i64 y.c, .int .i64 y.d] 56)) (some ⟨g, 0, none⟩) 2 [x, y] := by
 subst hg
 have h := heap_alloc_new W (.cells #[.int .i64 x.lv, .int .i64 x.a, .int .i64 x.b, .int .i64 x.c, .int .i64 x.d, .int .i64 y.lv, .int .i64 y.a, .int .i64 y.b, .int .i64 y.c, .int .i64 y.d] 56)
 refine ⟨fun z hz => ?_, by simp, by simp [maxLen], fun _ => ⟨_, 0, rfl, by simp, fun i hi => ?_⟩⟩
 ·
  simp at hz
  rcases hz with rfl | rfl
  ·
   exact hx
  ·
   exact hy
 ·
  match i, hi with
  | 0, _ => exact ⟨by rw [cell_of_row _ _ _ _ _ _ h]; rfl, by rw [cell_of_row _ _ _ _ _ _ h]; rfl, by rw [cell_of_row _ _ _ _ _ _ h]; rfl, by rw [cell_of_row _ _ _ _ _ _ h]; rfl, by rw [cell_of_row _ _ _ _ _ _ h]; rfl⟩
  | 1, _ => exact ⟨by rw [cell_of_row _ _ _ _ _ _ h]; rfl, by rw [cell_of_row _ _ _ _ _ _ h]; rfl, by rw [cell_of_row _ _ _ _ _ _ h]; rfl, by rw [cell_of_row _ _ _ _ _ _ h]; rfl, by rw [cell_of_row _ _ _ _ _ _ h]; rfl⟩
def St5 (w W : World) (g : Nat) : Prop :=
 Below w.heap.size w W ∧ Ns W (some ⟨g, 0, none⟩) 1 one5 ∧ Ns W (some ⟨g + 1, 0, none⟩) 2 hol5 ∧ Ns W (some ⟨g + 1 + 1, 0, none⟩) 2 far5 ∧ w.heap.size ≤ W.heap.size
theorem St5.step {w W W' : World} {g : Nat} (s : St5 w W g) (b : Below W.heap.size W W') : St5 w W' g :=
 ⟨s.1.trans (b.mono s.1.size), s.2.1.below b, s.2.2.1.below b, s.2.2.2.1.below b, Nat.le_trans s.2.2.2.2 b.size⟩
theorem St5.alloc {w W : World} {g : Nat} (s : St5 w W g) (o : Obj) : St5 w (W.alloc o) g := s.step ((Below.refl _ W).alloc (Nat.le_refl _) o)
theorem St5.start (w : World) : St5 w (((w.alloc (.cells #[.int .i64 1, .int .i64 0, .int .i64 0, .int .i64 0, .int .i64 1] 56)).alloc (.cells #[.int .i64 1, .int .i64 0, .int .i64 0, .int .i64 0, .int .i64 1, .int .i64 2, .int .i64 1, .int .i64 0, .int .i64 0, .int .i64 0] 56)).alloc (.cells #[.int .i64 1, .int .i64 0, .int .i64 0, .int .i64 0, .int .i64 1, .int .i64 2, .int .i64 0, .int .i64 0, .int .i64 0, .int .i64 1] 56)) w.heap.size := by
 have i0 : in64 0 := in64_0
 have i1 : in64 1 := ⟨by omega, by omega⟩
 have i2 : in64 2 := ⟨by omega, by omega⟩
 have h1 := ns_lit1 w w.heap.size ⟨1, 0, 0, 0, 1⟩ ⟨i1, i0, i0, i0, i1⟩ rfl
 have b2 := (Below.refl _ (w.alloc (.cells #[.int .i64 1, .int .i64 0, .int .i64 0, .int .i64 0, .int .i64 1] 56))).alloc (Nat.le_refl _) (.cells #[.int .i64 1, .int .i64 0, .int .i64 0, .int .i64 0, .int .i64 1, .int .i64 2, .int .i64 1, .int .i64 0, .int .i64 0, .int .i64 0] 56)
 have h2 := ns_lit2 (w.alloc (.cells #[.int .i64 1, .int .i64 0, .int .i64 0, .int .i64 0, .int .i64 1] 56)) (w.heap.size + 1) ⟨1, 0, 0, 0, 1⟩ ⟨2, 1, 0, 0, 0⟩ ⟨i1, i0, i0, i0, i1⟩ ⟨i2, i1, i0, i0, i0⟩ (by simp)
 have b3 := (Below.refl _ ((w.alloc (.cells #[.int .i64 1, .int .i64 0, .int .i64 0, .int .i64 0, .int .i64 1] 56)).alloc (.cells #[.int .i64 1, .int .i64 0, .int .i64 0, .int .i64 0, .int .i64 1, .int .i64 2, .int .i64 1, .int .i64 0, .int .i64 0, .int .i64 0] 56))).alloc (Nat.le_refl _) (.cells #[.int .i64 1, .int .i64 0, .int .i64 0, .int .i64 0, .int .i64 1, .int .i64 2, .int .i64 0, .int .i64 0, .int .i64 0, .int .i64 1] 56)
 have h3 := ns_lit2 ((w.alloc (.cells #[.int .i64 1, .int .i64 0, .int .i64 0, .int .i64 0, .int .i64 1] 56)).alloc (.cells #[.int .i64 1, .int .i64 0, .int .i64 0, .int .i64 0, .int .i64 1, .int .i64 2, .int .i64 1, .int .i64 0, .int .i64 0, .int .i64 0] 56)) (w.heap.size + 1 + 1) ⟨1, 0, 0, 0, 1⟩ ⟨2, 0, 0, 0, 1⟩ ⟨i1, i0, i0, i0, i1⟩ ⟨i2, i0, i0, i0, i1⟩ (by simp)
 exact ⟨(((Below.refl _ w).alloc (Nat.le_refl _) _).alloc (by simp) _).alloc (by simp; omega) _, (h1.below b2).below b3, h2.below b3, h3, by simp; omega⟩
end Go.Proofs.YtmfncapgikobkaaGreat

namespace Go.Proofs.YtmfncapgikobkaaGreat
set_option maxRecDepth 100000
set_option linter.unusedVariables false
set_option linter.unusedSimpArgs false
open Go.RowKit Nds
theorem Tryz.infoN : (Tryz.prog.info? 56).map (fun i => (i.zero, i.size, i.bytes)) = some (some (ndv nd0), 5, 40) := by kernel_rfl
def ndc (x : Nd) : List Value := [.int .i64 x.lv, .int .i64 x.a, .int .i64 x.b, .int .i64 x.c, .int .i64 x.d]
def ndcs (l : List Nd) : List Value := l.flatMap ndc
theorem ndcs_len (l : List Nd) : (ndcs l).length = l.length * 5 := by
 unfold ndcs
 induction l with
 | nil => rfl
 | cons x l ih =>
  rw [List.flatMap_cons, List.length_append, ih, List.length_cons]
  show 5 + _ = _
  omega
theorem ndcs_app (l m : List Nd) : ndcs (l ++ m) = ndcs l ++ ndcs m := by
 unfold ndcs
 rw [List.flatMap_append]
theorem ndcs_at : ∀ (l : List Nd) (i j : Nat), i < l.length → j < 5 → (ndcs l)[i * 5 + j]? = (ndc (at_ l i))[j]?
 | [], i, _, hi, _ => by simp at hi
 | x :: l, 0, j, _, hj => by
  show (ndc x ++ ndcs l)[0 * 5 + j]? = _
  rw [List.getElem?_append_left (by show _ < 5; omega), show 0 * 5 + j = j by omega]
  rfl
 | x :: l, i + 1, j, hi, hj => by
  show (ndc x ++ ndcs l)[(i + 1) * 5 + j]? = _
  rw [List.getElem?_append_right (by show 5 ≤ _; omega), show (i + 1) * 5 + j - (ndc x).length = i * 5 + j by show _ - 5 = _; omega, ndcs_at l i j (by simpa using hi) hj]
  rfl
theorem ndcs_one (l : List Nd) : ∀ u ∈ ndcs l, u.oneCell' = true := fun u hu => by
 obtain ⟨x, _, hx⟩ := List.mem_flatMap.1 hu
 simp only [ndc, List.mem_cons, List.not_mem_nil, or_false] at hx
 rcases hx with rfl | rfl | rfl | rfl | rfl <;> rfl
theorem Ns.cells {w : World} {A : Option Addr} {c : Nat} {l : List Nd} (h : Ns w A c l) {ad : Addr} (e : A = some ad) : ∀ j u, (ndcs l)[j]? = some u → w.cell? (ad.add j) = some u := by
 intro j u hu
 have hj := (List.getElem?_eq_some_iff.1 hu).1
 rw [ndcs_len] at hj
 obtain ⟨b, off, e2, _, hc⟩ := h.at_ (by omega)
 rw [e] at e2
 cases e2
 have hd := hc (j / 5) (by omega)
 have hs : j = j / 5 * 5 + j % 5 := by omega
 rw [hs, ndcs_at l (j / 5) (j % 5) (by omega) (by omega)] at hu
 obtain ⟨h1, h2, h3, h4, h5⟩ := hd
 have hlt : j % 5 < 5 := Nat.mod_lt _ (by omega)
 have hadd : (⟨b, off, none⟩ : Addr).add j = ⟨b, off + j, none⟩ := by simp [Addr.add]
 rw [hadd]
 generalize hq : j / 5 = q at *
 generalize hr : j % 5 = r at *
 match r, hlt with
 | 0, _ => rw [show off + j = off + q * 5 by omega, h1]; exact hu
 | 1, _ => rw [show off + j = off + q * 5 + 1 by omega, h2]; exact hu
 | 2, _ => rw [show off + j = off + q * 5 + 2 by omega, h3]; exact hu
 | 3, _ => rw [show off + j = off + q * 5 + 3 by omega, h4]; exact hu
 | 4, _ => rw [show off + j = off + q * 5 + 4 by omega, h5]; exact hu
def OwnN (w : World) (base : Nat) (v : Value) (l : List Nd) : Prop := (∀ x ∈ l, x.wf) ∧ w.ownsRow base 56 5 v l.length (ndcs l)
theorem OwnN.shape {w : World} {base : Nat} {v : Value} {l : List Nd} (h : OwnN w base v l) : ∃ A c, v = .slice A l.length c ∧ Ns w A c l ∧ ((A = none → c = 0) ∧ ∀ a, A = some a → base ≤ a.block) := by
 rcases h.2.2 with ⟨h', hn⟩ | ⟨g, cap, cur, h', hb, hg, hnc, hcm, hcs, htake⟩
 ·
  exact ⟨none, 0, by rw [h', hn], ⟨h.1, by omega, by simp [maxLen], fun h => by omega⟩, (fun _ => rfl), (fun a e => by cases e)⟩
 ·
  refine ⟨some ⟨g, 0, none⟩, cap, h', ⟨h.1, hnc, hcm, fun hn => ⟨g, 0, rfl, ?_, fun i hi => ?_⟩⟩, (fun e => by cases e), (fun a e => by cases e; exact hb)⟩
  ·
   rcases Nat.lt_or_ge g w.heap.size with hlt | hge
   ·
    exact hlt
   ·
    rw [Array.getElem?_eq_none hge] at hg; cases hg
  ·
   have hcell : ∀ j, j < 5 → w.cell? ⟨g, i * 5 + j, none⟩ = (ndc (at_ l i))[j]? := by
    intro j hj
    have hlt : i * 5 + j < l.length * 5 := by omega
    rw [cell_of_row w g (i * 5 + j) cur _ (0, 0) hg, ← ndcs_at l i j hi hj, ← htake, List.getElem?_take, if_pos hlt]
    simp
   rw [Nat.zero_add]
   exact ⟨hcell 0 (by omega), hcell 1 (by omega), hcell 2 (by omega), hcell 3 (by omega), hcell 4 (by omega)⟩
theorem OwnN.start (w : World) : OwnN (w.alloc (.cells #[] 56)) w.heap.size (.slice (some ⟨w.heap.size, 0, none⟩) 0 0) [] :=
 ⟨by simp, World.ownsRow_made w #[] 0 (Nat.le_refl _) (by simp [maxLen]) rfl⟩
theorem run_append_nodes (w : World) (base : Nat) (v : Value) (xs ys : List Nd) (ty : TypeId) (A : Option Addr) (m c : Nat) (how : OwnN w base v xs) (hN : Ns w A c ys) (hm : ys.length = m) (hA : A = none → c = 0) (hs : xs.length + m ≤ 1000000) (hb : base ≤ w.heap.size) :
  ∃ v' w', (Builtin.append_ #[25, 25] ty #[v, .slice A m c]).run Tryz.prog w = .ok v' w' ∧ OwnN w' base v' (xs ++ ys) ∧ w.grownBy w' v.ownBlock ∧ (v'.ownBlock = v.ownBlock ∨ v'.ownBlock = some w.heap.size) := by
 obtain ⟨i0, hi, hz0, hz1, hz2⟩ := info_parts Tryz.infoN
 have hwf : ∀ x ∈ xs ++ ys, x.wf := fun x hx => by
  rcases List.mem_append.1 hx with h | h
  ·
   exact how.1 x h
  ·
   exact hN.1 x h
 cases A with
 | none =>
  have hc := hA rfl
  have hy : ys = [] := by
   rcases Nat.eq_zero_or_pos ys.length with h | h
   ·
    exact List.eq_nil_of_length_eq_zero h
   ·
    obtain ⟨b, off, e, _⟩ := hN.at_ h
    cases e
  subst hy
  subst hc
  subst hm
  refine ⟨v, w, run_append_owned_none (P := Tryz.prog) (w := w) base _ ty 56 i0 5 Tryz.underlying25 hi v _ _ how.2, ?_, ⟨rfl, rfl, rfl, Nat.le_refl _, fun _ _ _ => rfl⟩, .inl rfl⟩
  rw [List.append_nil]
  exact how
 | some ad =>
  obtain ⟨v', w', hrun, h2, h3, _, h5⟩ := run_append_own_at (P := Tryz.prog) w base 25 ty 56 i0 (ndv nd0) 5 40 Tryz.underlying25 hi hz0 hz1 hz2 rfl (by omega) v xs.length (ndcs xs) how.2 ad m c (ndcs ys) (by rw [ndcs_len, hm]) (hN.cells rfl) (ndcs_one ys) (by simp only [maxLen]; omega) (by omega) hb
  refine ⟨v', w', hrun, ⟨hwf, ?_⟩, h3, h5⟩
  rw [ndcs_app, List.length_append, hm]
  exact h2
theorem wpList_append_nodes (w : World) {ops : Array Oper} {rest : List Oper} {o : Oper} {a : Act} {Q : Exit → Act → World → Prop} (hg : o.guard = none) (s x : Operand)
  (hop : o.op = Op.call { callee := Callee.builtin Builtin.append, args := #[s, x], argTypes := #[25, 25] }) (base : Nat) (v : Value) (xs ys : List Nd) (A : Option Addr) (m c : Nat)
  (hs : a.eval s = v) (hx : a.eval x = .slice A m c) (how : OwnN w base v xs) (hN : Ns w A c ys) (hm : ys.length = m) (hA : A = none → c = 0) (hsz : xs.length + m ≤ 1000000) (hb : base ≤ w.heap.size)
  (hK : ∀ v' w', OwnN w' base v' (xs ++ ys) → w.grownBy w' v.ownBlock → (v'.ownBlock = v.ownBlock ∨ v'.ownBlock = some w.heap.size) → wpList Tryz.prog ops Q rest (a.put o.dst v') w') :
  wpList Tryz.prog ops Q (o :: rest) a w := by
 refine wpList_plain hg fun K hK' => ?_
 obtain ⟨v', w', hrun, h1, h2, h3⟩ := run_append_nodes w base v xs ys o.type A m c how hN hm hA hsz hb
 unfold Oper.wp execOp
 simp only [hop, resolve, invoke, builtin, Sem.run_bind, Sem.run_pure, Result.andThen_ok, List.map_toArray, List.map_cons, List.map_nil, hs, hx, hrun]
 exact hK' _ _ (hK v' w' h1 h2 h3)
theorem oper_append_nodes {w : World} {o : Oper} {a : Act} {K : Act → World → Prop} {Q : Exit → Act → World → Prop} (s x : Operand)
  (hop : o.op = Op.call { callee := Callee.builtin Builtin.append, args := #[s, x], argTypes := #[25, 25] }) (base : Nat) (v : Value) (xs ys : List Nd) (A : Option Addr) (m c : Nat)
  (hs : a.eval s = v) (hx : a.eval x = .slice A m c) (how : OwnN w base v xs) (hN : Ns w A c ys) (hm : ys.length = m) (hA : A = none → c = 0) (hsz : xs.length + m ≤ 1000000) (hb : base ≤ w.heap.size)
  (h : ∀ v' w', OwnN w' base v' (xs ++ ys) → w.grownBy w' v.ownBlock → (v'.ownBlock = v.ownBlock ∨ v'.ownBlock = some w.heap.size) → K (a.put o.dst v') w') : Oper.wp Tryz.prog o a w K Q := by
 obtain ⟨v', w', hrun, h1, h2, h3⟩ := run_append_nodes w base v xs ys o.type A m c how hN hm hA hsz hb
 unfold Oper.wp execOp
 simp only [hop, resolve, invoke, builtin, Sem.run_bind, Sem.run_pure, Result.andThen_ok, List.map_toArray, List.map_cons, List.map_nil, hs, hx, hrun]
 exact h v' w' h1 h2 h3
theorem Ns.gbr {w w' : World} {A : Option Addr} {c : Nat} {l : List Nd} {row : Option Nat} (h : Ns w A c l) (hg : w.grownBy w' row) (hA : ∀ a, A = some a → some a.block ≠ row) : Ns w' A c l :=
 ⟨h.1, h.2.1, h.2.2.1, fun hn => by
  obtain ⟨b, off, e, hlt, hc⟩ := h.2.2.2 hn
  exact ⟨b, off, e, Nat.lt_of_lt_of_le hlt hg.size, fun i hi => (hc i hi).below (hg.block b hlt (hA _ e))⟩⟩
theorem OwnN.gbr {w w' : World} {base : Nat} {v : Value} {l : List Nd} {row : Option Nat} (h : OwnN w base v l) (hg : w.grownBy w' row) (hv : v.ownBlock = none ∨ v.ownBlock ≠ row) : OwnN w' base v l := ⟨h.1, h.2.kept hg hv⟩
theorem OwnN.alloc {w : World} {base : Nat} {v : Value} {l : List Nd} (h : OwnN w base v l) (o : Obj) : OwnN (w.alloc o) base v l := ⟨h.1, h.2.alloc o⟩
theorem OwnN.lt {w : World} {base : Nat} {v : Value} {l : List Nd} (h : OwnN w base v l) : ∀ k, v.ownBlock = some k → base ≤ k ∧ k < w.heap.size := h.2.lt
theorem Ns.rest {w : World} {b off c : Nat} {l : List Nd} (h : Ns w (some ⟨b, off, none⟩) c l) {k : Nat} (hk : k ≤ l.length) : Ns w (some ⟨b, off + k * 5, none⟩) (c - k) (l.drop k) := by
 have hlc := h.2.1
 refine ⟨fun x hx => h.1 x (List.mem_of_mem_drop hx), by rw [List.length_drop]; omega, by have := h.2.2.1; omega, fun hn => ?_⟩
 rw [List.length_drop] at hn
 obtain ⟨b2, off2, e, hlt, hc⟩ := h.at_ (by omega)
 cases e
 refine ⟨b, off + k * 5, rfl, hlt, fun i hi => ?_⟩
 rw [List.length_drop] at hi
 have e1 : Nds.at_ (l.drop k) i = Nds.at_ l (k + i) := by
  unfold Nds.at_
  rw [List.getElem?_drop]
 rw [e1, show off + k * 5 + i * 5 = off + (k + i) * 5 by omega]
 exact hc (k + i) (by omega)
def Sn (w W : World) (L : List (Option Addr × Nat × List Nd)) : Prop := Below w.heap.size w W ∧ ∀ t ∈ L, Ns W t.1 t.2.1 t.2.2
theorem Sn.start (w : World) : Sn w w [] := ⟨Below.refl _ _, by simp⟩
theorem Sn.get {w W : World} {L : List (Option Addr × Nat × List Nd)} (s : Sn w W L) {A : Option Addr} {c : Nat} {l : List Nd} (h : (A, c, l) ∈ L) : Ns W A c l := s.2 _ h
theorem Sn.step {w W W' : World} {L : List (Option Addr × Nat × List Nd)} (s : Sn w W L) (b : Below W.heap.size W W') : Sn w W' L :=
 ⟨s.1.trans (b.mono s.1.size), fun t ht => (s.2 t ht).below b⟩
theorem Sn.add {w W : World} {L : List (Option Addr × Nat × List Nd)} (s : Sn w W L) {A : Option Addr} {c : Nat} {l : List Nd} (h : Ns W A c l) : Sn w W ((A, c, l) :: L) :=
 ⟨s.1, fun t ht => by
  rcases List.mem_cons.1 ht with rfl | ht
  ·
   exact h
  ·
   exact s.2 t ht⟩
theorem Sn.alloc {w W : World} {L : List (Option Addr × Nat × List Nd)} (s : Sn w W L) (o : Obj) : Sn w (W.alloc o) L := s.step ((Below.refl _ W).alloc (Nat.le_refl _) o)
end Go.Proofs.YtmfncapgikobkaaGreat

namespace Go.Proofs.YtmfncapgikobkaaGreat
set_option maxRecDepth 100000
set_option linter.unusedVariables false
set_option linter.unusedSimpArgs false
open Nds
theorem quad_loose {l : List Nd} (hq : quadB l = true) : looseB l = true := by
 by_cases hne : l = []
 ·
  subst hne
  rfl
 ·
  unfold quadB at hq
  rw [decide_eq_false hne, Bool.false_or, Bool.and_eq_true] at hq
  exact hq.1
end Go.Proofs.YtmfncapgikobkaaGreat
