/-
  look: Get.
  canon: wider, in general.
  canon: Grow, in general.
  look: the setter: its box, and its row of nodes.
  look: put of the setter.
  look: what Set's walk needs.
-/
import Derived.Test.YtlnmcilcifbcnaaGLkGu
import Derived.Test.YtlnmcilcifbcnaaGClK2
import Derived.ArgAppend
import Derived.Deep.RegionHeld3
import Derived.Test.YtlnmcilcifbcnaaLay0

set_option linter.unusedVariables false
set_option linter.unusedSimpArgs false
set_option maxRecDepth 100000
namespace Go.Proofs.Ytlnmcilcifbcnaa
open Go.RowKit Num Nds
theorem level_most {q : List Nd} (hq : looseB q = true) : 0 ≤ levelZ q ∧ levelZ q ≤ 1329 := by
 unfold levelZ
 by_cases h0 : q = []
 ·
  rw [if_pos h0]; omega
 ·
  rw [if_neg h0]
  have h1 := List.length_pos_iff.2 h0
  have h2 := fit_lv (loose_fit hq (i := q.length - 1) (by omega))
  omega
set_option maxHeartbeats 6400000 in
theorem get_lk (A A1 A2 : Option Addr) (c n d1 d2 : Nat) (s t : Bool) (q : List Nd) (xs ys : List Nat) (w : World) (h : Ns w A c q) (hn : q.length = n) (hq : looseB q = true) (hx : Us w A1 d1 xs) (hy : Us w A2 d2 ys) (kx : CanonI s xs) (ky : CanonI t ys) (hl : xs.length ≤ 50000) (kl : ys.length ≤ 50000) :
  Calls Try.prog 16 #[.agg #[.slice A n c], .agg #[.bool s, .slice A1 xs.length d1], .agg #[.bool t, .slice A2 ys.length d2]] w fun e w' => e = .returned (.int .u8 (getQ q (ival s xs) (ival t ys))) ∧ Below w.heap.size w w' := by
 have hcap := h.cap
 rw [hn] at hcap
 have xcap := hx.cap
 have ycap := hy.cap
 obtain ⟨R, hR⟩ : ∃ R, R = getQ q (ival s xs) (ival t ys) := ⟨_, rfl⟩
 have hRb := getQ_byte hq (ival s xs) (ival t ys)
 rw [← hR] at hRb ⊢
 obtain ⟨W, hW⟩ : ∃ W : World, W = ((w.alloc (.cells #[.slice A n c] 31)).alloc (.cells #[.bool s, .slice A1 xs.length d1] 25)).alloc (.cells #[.bool t, .slice A2 ys.length d2] 25) := ⟨_, rfl⟩
 have hL : Below w.heap.size w W := by rw [hW]; exact (((Below.refl _ w).alloc (Nat.le_refl _) _).alloc (by simp) _).alloc (by simp; omega) _
 have hB0 : W.heap[w.heap.size]? = some (.cells #[.slice A n c] 31) := by
  rw [hW]
  exact (Below.heap_alloc _ _ _ (by simp only [World.size_alloc]; omega)).trans ((Below.heap_alloc _ _ _ (by simp only [World.size_alloc]; omega)).trans (heap_alloc_new w _))
 have hB1 : W.heap[w.heap.size + 1]? = some (.cells #[.bool s, .slice A1 xs.length d1] 25) := by
  rw [hW]
  refine (Below.heap_alloc _ _ _ (by simp only [World.size_alloc]; omega)).trans ?_
  have := heap_alloc_new (w.alloc (.cells #[.slice A n c] 31)) (.cells #[.bool s, .slice A1 xs.length d1] 25)
  rwa [World.size_alloc] at this
 have hB2 : W.heap[w.heap.size + 1 + 1]? = some (.cells #[.bool t, .slice A2 ys.length d2] 25) := by
  rw [hW]
  have := heap_alloc_new ((w.alloc (.cells #[.slice A n c] 31)).alloc (.cells #[.bool s, .slice A1 xs.length d1] 25)) (.cells #[.bool t, .slice A2 ys.length d2] 25)
  rwa [World.size_alloc, World.size_alloc] at this
 have hWs : W.heap.size = w.heap.size + 1 + 1 + 1 := by rw [hW]; simp only [World.size_alloc]
 obtain ⟨lq, hlq⟩ : ∃ lq, lq = levelZ q := ⟨_, rfl⟩
 obtain ⟨M, hM⟩ : ∃ M : Nat, M = max (rcI (ival s xs)) (rcI (ival t ys)) := ⟨_, rfl⟩
 have hlm := level_most hq
 rw [← hlq] at hlm
 have hM9 : M ≤ 1700000 := by
  have h1 := rc_len hx.1 hl (s := s)
  have h2 := rc_len hy.1 kl (s := t)
  rw [hM]
  omega
 have HW := Lib.hid hW
 have HL := Lib.hid hL
 have HB0 := Lib.hid hB0
 have HB1 := Lib.hid hB1
 have HB2 := Lib.hid hB2
 have HN := Lib.hid (h.below hL)
 have HX := Lib.hid (hx.below hL)
 have HY := Lib.hid (hy.below hL)
 have KX := Lib.hid kx
 have KY := Lib.hid ky
 have HLE := Lib.hid hn
 have HQ := Lib.hid hq
 have HR := Lib.hid hR
 have HLQ := Lib.hid hlq
 have HM := Lib.hid hM
 have HWS := Lib.hid hWs
 have a0 := one_cell hB0
 obtain ⟨x1, x2⟩ := big_cells hB1
 obtain ⟨y1, y2⟩ := big_cells hB2
 by_cases hgt : lq < (M : Int) + 1
 ·
  have t1 : decide ((M : Int) + 1 > lq) = true := decide_eq_true hgt
  have t2 : decide (lq < (M : Int) + 1) = true := decide_eq_true hgt
  have hR0 : R = 0 := by rw [hR]; exact getQ_out hq (by rw [← hlq, ← hM]; exact hgt)
  rw [hR0]
  clear h hn hq hx hy kx ky hR hRb hL hB0 hB1 hB2 hWs hlq hM hR0
  rw [hW] at a0 x1 x2 y1 y2
  clear hW
  go_enter Try.func16, Try.ntmps16
  go_wp2_with (first
   | (go_at_call 41; rw [← HW.out]; go_loud (refine (nlevel_any A c n q _ HN.out HLE.out).mono ?_; rintro e w1 ⟨rfl, b1⟩; rw [← HLQ.out]; have B1 := Lib.hid b1; obtain ⟨x1, x2⟩ := big_cells ((b1.block _ (by have := HWS.out; omega)).trans HB1.out); obtain ⟨y1, y2⟩ := big_cells ((b1.block _ (by have := HWS.out; omega)).trans HB2.out); clear b1))
   | (go_at_call 39; go_loud (refine (least_lk s t A1 A2 d1 d2 xs ys _ (HX.out.below B1.out) (HY.out.below B1.out) KX.out KY.out hl kl).mono ?_; rintro e w2 ⟨rfl, b2⟩; rw [← HM.out]; have B2 := Lib.hid b2; clear b2)))
  go_ret
  exact ⟨rfl, HL.out.trans ((B1.out.trans (B2.out.mono B1.out.size)).mono HL.out.size)⟩
 ·
  obtain ⟨m, rfl⟩ : ∃ m : Nat, lq = (m : Int) + 1 := ⟨(lq - 1).toNat, by omega⟩
  have t1 : decide ((M : Int) + 1 > (m : Int) + 1) = false := decide_eq_false (by omega)
  have t2 : decide ((m : Int) + 1 < (M : Int) + 1) = false := decide_eq_false (by omega)
  have hm9 : m ≤ 1328 := by omega
  have hXr := (rc_iff (ival s xs) m).1 (by omega)
  have hYr := (rc_iff (ival t ys) m).1 (by omega)
  have HXR := Lib.hid hXr
  have HYR := Lib.hid hYr
  have HPM := Lib.hid (show p2 m + p2 m ≤ p2 1330 by have h1 := p2_succ m; have h2 := p2_mono (show m + 1 ≤ 1330 by omega); omega)
  have HGS := Lib.hid (fun (x y : Nat) => GetR.start (x := x) (y := y) hq hlq.symm hXr hYr hm9)
  clear h hn hq hx hy kx ky hR hL hB0 hB1 hB2 hWs hlq hM hXr hYr
  rw [hW] at a0 x1 x2 y1 y2
  clear hW
  go_enter Try.func16, Try.ntmps16
  go_wp2_with (first
   | (go_at_call 41; rw [← HW.out]; go_loud (refine (nlevel_any A c n q _ HN.out HLE.out).mono ?_; rintro e w1 ⟨rfl, b1⟩; rw [← HLQ.out]; have B1 := Lib.hid b1; obtain ⟨x1, x2⟩ := big_cells ((b1.block _ (by have := HWS.out; omega)).trans HB1.out); obtain ⟨y1, y2⟩ := big_cells ((b1.block _ (by have := HWS.out; omega)).trans HB2.out); clear b1))
   | (go_at_call 39; go_loud (refine (least_lk s t A1 A2 d1 d2 xs ys _ (HX.out.below B1.out) (HY.out.below B1.out) KX.out KY.out hl kl).mono ?_; rintro e w2 ⟨rfl, b2⟩; rw [← HM.out]; have b12 := B1.out.trans (b2.mono B1.out.size); have B2 := Lib.hid b12; obtain ⟨x1, x2⟩ := big_cells ((b12.block _ (by have := HWS.out; omega)).trans HB1.out); obtain ⟨y1, y2⟩ := big_cells ((b12.block _ (by have := HWS.out; omega)).trans HB2.out); clear b2 b12))
   | (go_at_call 43; go_loud (refine (inside_lk s t A1 A2 d1 d2 xs ys m _ (HX.out.below B2.out) (HY.out.below B2.out) hl kl (by omega)).mono ?_; rintro e w3 ⟨v, rfl, u3, k3, k4, v3, v4, b3⟩; have b123 := B2.out.trans (b3.mono B2.out.size); have B3 := Lib.hid b123; have U3 := Lib.hid u3; have K3 := Lib.hid k3; have K4 := Lib.hid k4; have V3 := Lib.hid v3; have V4 := Lib.hid v4; have a0 := one_cell (((b123.alloc b123.size (.cells #[.bool v.sx, .slice v.ax v.xs.length v.cx, .bool v.sy, .slice v.ay v.ys.length v.cy] 71)).block w.heap.size (by have := HWS.out; omega)).trans HB0.out); clear b3 b123 u3 k3 k4 v3 v4)))
  obtain ⟨g, hg⟩ : ∃ g, g = w3.heap.size := ⟨_, rfl⟩
  obtain ⟨W4, hW4⟩ : ∃ V : World, V = w3.alloc (.cells #[.bool v.sx, .slice v.ax v.xs.length v.cx, .bool v.sy, .slice v.ay v.ys.length v.cy] 71) := ⟨_, rfl⟩
  have hb4 : Below W.heap.size W W4 := by rw [hW4]; exact B3.out.alloc B3.out.size _
  have hs4 : W4.heap.size = g + 1 := by rw [hW4, hg]; simp only [World.size_alloc]
  have hsp : SpAt W4 g 0 v := by rw [hW4, hg]; exact SpAt.new w3 v _
  have hbq : W4.heap[w.heap.size]? = some (.cells #[.slice A n c] 31) := (hb4.block _ (by have := HWS.out; omega)).trans HB0.out
  have hu4 : CvU W4 v := by
   have hb : Below w3.heap.size w3 W4 := by rw [hW4]; exact (Below.refl _ w3).alloc (Nat.le_refl _) _
   exact ⟨U3.out.1.below hb, U3.out.2.1.below hb, U3.out.2.2⟩
  have hgs : w.heap.size < g := by have h1 := B3.out.size; have h2 := HWS.out; omega
  have hvx : ((val v.xs : Nat) : Int) = ival s xs + p2 m := by
   have h1 := V3.out
   have h2 := K3.out.plus (by rw [h1]; have := HXR.out.1; omega)
   rw [h2] at h1
   exact h1
  have hvy : ((val v.ys : Nat) : Int) = ival t ys + p2 m := by
   have h1 := V4.out
   have h2 := K4.out.plus (by rw [h1]; have := HYR.out.1; omega)
   rw [h2] at h1
   exact h1
  have hXr := HXR.out
  have hYr := HYR.out
  have hpp := HPM.out
  have hw8 : IntKind.u8.wrap R = R := by simp [IntKind.wrap, IntKind.bits, IntKind.signed]; omega
  obtain ⟨H0, hH0⟩ : ∃ H0 : GetR q R (val v.xs) (val v.ys) (m + 1) (q.length : Int), True := ⟨by rw [HR.out]; exact HGS.out _ _ hvx hvy, trivial⟩
  have HG0 := Lib.hid H0
  have HB4 := Lib.hid hb4
  have HS4 := Lib.hid hs4
  have HSP := Lib.hid hsp
  have HBQ := Lib.hid hbq
  have HU4 := Lib.hid hu4
  have HW4 := Lib.hid hW4
  have HN4 := Lib.hid (HN.out.below hb4)
  have HGG := Lib.hid hgs
  have HLV := Lib.hid (show v.xs.length ≤ 60000 ∧ v.ys.length ≤ 60000 from ⟨by have := len_near K3.out V3.out (by omega) (by omega); omega, by have := len_near K4.out V4.out (by omega) (by omega); omega⟩)
  clear hb4 hs4 hsp hbq hu4 hW4 hgs hvx hvy hXr hYr hpp hH0 H0
  rw [← HW4.out, ← hg]
  clear hg
  go_loopw [7, 9] (fun z8 z9 wr => ∃ (j : Nat) (k : Int), z8 = .int .i64 (j : Int) ∧ z9 = .int .i64 k ∧ j ≤ m + 1 ∧ GetR q R (val v.xs) (val v.ys) j k ∧ Below W4.heap.size W4 wr) (fun z8 _ _ => (intOf z8).toNat)
  case atStart => exact ⟨m + 1, (q.length : Int), by go_num, by rw [HLE.out], Nat.le_refl _, HG0.out, Below.refl _ _⟩
  case round =>
   obtain ⟨j, k, rfl, rfl, hj, hgr, hbr⟩ := hrel
   have HGR := Lib.hid hgr
   have HBR := Lib.hid hbr
   have hback : Below w.heap.size w wr := HL.out.trans ((HB4.out.trans (hbr.mono HB4.out.size)).mono HL.out.size)
   have HBK := Lib.hid hback
   clear hgr hbr hback
   cases j with
   | zero =>
    have t3 : decide (((0 : Nat) : Int) > 0) = false := rfl
    have t4 : decide ((0 : Int) < ((0 : Nat) : Int)) = false := rfl
    obtain rfl := HGR.out.last
    go_wp2_with fail
    go_ret
    exact ⟨by simp [hw8], HBK.out⟩
   | succ j =>
    have e0 : (((j + 1 : Nat)) : Int) = (j : Int) + 1 := by omega
    have t3 : decide ((j : Int) + 1 > 0) = true := decide_eq_true (by omega)
    have t4 : decide ((0 : Int) < (j : Int) + 1) = true := t3
    rw [e0]
    rcases HGR.out.some with rfl | ⟨p, rfl, hp⟩
    ·
     obtain rfl := HGR.out.none
     go_wp2_with fail
     go_ret
     exact ⟨by simp [hw8], HBK.out⟩
    ·
     have t5 : (((p : Int) + 1) == 0) = false := by rw [beq_eq_false_iff_ne]; omega
     have hstep := HGR.out.step HQ.out (by omega)
     have HST := Lib.hid hstep
     obtain ⟨b, off, hAe, hbl, hcl⟩ := (HN4.out.below HBR.out).at_ (by omega)
     subst hAe
     obtain ⟨u, hu⟩ : ∃ u, u = quaC v j := ⟨_, rfl⟩
     have hqr : qtr j (val v.xs) (val v.ys) = u := hu.symm
     have hu4 : u < 4 := by rw [← hqr]; exact qtr_lt _ _ _
     rw [hqr] at hstep
     obtain ⟨k, hk⟩ : ∃ k, k = (at_ q p).kid u := ⟨_, rfl⟩
     have hkc := (hcl p hp).kid hu4
     rw [← hk] at hkc hstep
     have HST := Lib.hid hstep
     have HUU := Lib.hid hu
     have i1 : (0 : Int) ≤ (p : Int) := by omega
     have i2 : (p : Int) < (n : Int) := by have := HLE.out; omega
     have i3 : IntKind.i64.wrap ((p : Int) + 1 - 1) = (p : Int) := by rw [show (p : Int) + 1 - 1 = (p : Int) by omega]; exact IntWalk.i64_in _ (by omega)
     have i4 : IntKind.i64.wrap ((j : Int) + 1 - 1) = (j : Int) := by rw [show (j : Int) + 1 - 1 = (j : Int) by omega]; exact IntWalk.i64_in _ (by omega)
     have i7 : IntKind.i64.wrap (p : Int) = (p : Int) := IntWalk.i64_in _ (by omega)
     have i8 : IntKind.i64.wrap (j : Int) = (j : Int) := IntWalk.i64_in _ (by omega)
     have i5 : (0 : Int) ≤ (u : Int) := by omega
     have i6 : (u : Int) < 4 := by omega
     have hsr := HBR.out.size
     have hbw : w.heap.size < W4.heap.size := by have h1 := HGG.out; have h2 := HS4.out; omega
     have hbg : g < W4.heap.size := by have h2 := HS4.out; omega
     have a0 := one_cell ((HBR.out.block _ hbw).trans HBQ.out)
     have hspr := HSP.out.below (HBR.out.block g hbg)
     have c0 : wr.cell? ⟨g, 0, none⟩ = some (.bool v.sx) := hspr.1
     have c1 : wr.cell? ⟨g, 1, none⟩ = some (.slice v.ax v.xs.length v.cx) := hspr.2.1
     have c2 : wr.cell? ⟨g, 2, none⟩ = some (.bool v.sy) := hspr.2.2.1
     have c3 : wr.cell? ⟨g, 3, none⟩ = some (.slice v.ay v.ys.length v.cy) := hspr.2.2.2
     clear hspr
     have HBD := Lib.hid (Below.drew' HBR.out)
     have HUD := Lib.hid (show CvU wr.drew v from ⟨HU4.out.1.below HBD.out, HU4.out.2.1.below HBD.out, HU4.out.2.2⟩)
     have lb : b < wr.drew.heap.size := hbl
     have lw : w.heap.size < wr.drew.heap.size := Nat.lt_of_lt_of_le hbw hsr
     have lg : g < wr.drew.heap.size := Nat.lt_of_lt_of_le hbg hsr
     have LB := Lib.hid lb
     have LW := Lib.hid lw
     have LG := Lib.hid lg
     have q0 : True := trivial
     clear hu hqr hstep hk hcl hbl hsr hbw hbg lb lw lg
     go_wp2_with fail
     go_region_held3 (fun w' => w'.cell? ⟨w.heap.size, 0, none⟩ = some (.slice (some ⟨b, off, none⟩) n c) ∧ w'.cell? ⟨g, 0, none⟩ = some (.bool v.sx) ∧ w'.cell? ⟨g, 1, none⟩ = some (.slice v.ax v.xs.length v.cx) ∧ w'.cell? ⟨g, 2, none⟩ = some (.bool v.sy) ∧ w'.cell? ⟨g, 3, none⟩ = some (.slice v.ay v.ys.length v.cy) ∧ w'.cell? ⟨b, off + p * 5 + 1 + u, none⟩ = some (.int .i64 k))
      (first | exact ⟨a0, c0, c1, c2, c3, hkc⟩ | go_keep | fail)
      (first
       | (have _t := q0; go_at_call 51; clear _t; go_loud (refine (quarter_lk v j _ HUD.out HLV.out.1 HLV.out.2 (by omega)).mono ?_; rintro e w5 ⟨rfl, b5⟩; rw [← HUU.out]; have y0 := (b5.cell (p := ⟨w.heap.size, 0, none⟩) LW.out).trans a0; have y1 := (b5.cell (p := ⟨g, 0, none⟩) LG.out).trans c0; have y2 := (b5.cell (p := ⟨g, 1, none⟩) LG.out).trans c1; have y3 := (b5.cell (p := ⟨g, 2, none⟩) LG.out).trans c2; have y4 := (b5.cell (p := ⟨g, 3, none⟩) LG.out).trans c3; have y5 := (b5.cell (p := ⟨b, off + p * 5 + 1 + u, none⟩) LB.out).trans hkc; have B5 := Lib.hid b5; clear b5; have q1 := q0; clear q0)))
     go_wp2_with fail
     go_roundw
     case rel => exact ⟨j, k, by go_num, rfl, by omega, HST.out, HBD.out.trans (B5.out.mono HBD.out.size)⟩
     case measure => simp [intOf]
end Go.Proofs.Ytlnmcilcifbcnaa

namespace Go.Proofs.Ytlnmcilcifbcnaa
open Go.RowKit Nds
theorem wdK_skip {l : List Nd} {t : Nd} {k : Nat} (h : t.kid k = 0) : wdK l t (k + 1) = wdK l t k := if_pos h
theorem wdK_next {l : List Nd} {t : Nd} {k : Nat} (h : t.kid k ≠ 0) : wdK l t (k + 1) = ((wdK l t k).1 ++ [chK ⟨t.lv, 0, 0, 0, 0⟩ (3 - k) (t.kid k)], chK (wdK l t k).2 k (((wdK l t k).1.length + 1 : Nat) : Int)) := if_neg h
theorem wdK_len (l : List Nd) (t : Nd) : ∀ k, (wdK l t k).1.length ≤ l.length + k
 | 0 => Nat.le_refl _
 | k + 1 => by
  have := wdK_len l t k
  by_cases h : t.kid k = 0
  ·
   rw [wdK_skip h]; omega
  ·
   rw [wdK_next h]; simp; omega
theorem chK_wf {x : Nd} (h : x.wf) (k : Nat) {u : Int} (hu : in64 u) : (chK x k u).wf := by
 obtain ⟨h0, h1, h2, h3, h4⟩ := h
 match k with
 | 0 => exact ⟨h0, hu, h2, h3, h4⟩
 | 1 => exact ⟨h0, h1, hu, h3, h4⟩
 | 2 => exact ⟨h0, h1, h2, hu, h4⟩
 | _ + 3 => exact ⟨h0, h1, h2, h3, hu⟩
theorem wdK_wf {l : List Nd} {t : Nd} (ht : 1 ≤ t.lv ∧ t.lv ≤ 1329) (hl : l.length ≤ 990000) : ∀ k, k ≤ 4 → (wdK l t k).2.wf
 | 0, _ => ⟨⟨by show _ ≤ t.lv + 1; omega, by show t.lv + 1 ≤ _; omega⟩, in64_0, in64_0, in64_0, in64_0⟩
 | k + 1, hk => by
  have ih := wdK_wf ht hl k (by omega)
  by_cases h : t.kid k = 0
  ·
   rw [wdK_skip h]; exact ih
  ·
   rw [wdK_next h]
   have := wdK_len l t k
   exact chK_wf ih k ⟨by omega, by omega⟩
theorem NdBox.chK {w : World} {g : Nat} {x : Nd} (h : NdBox w g x) {k : Nat} (hk : k < 4) {o : Nat} (ho : o = 1 + k) (u : Int) : NdBox (w.setCell ⟨g, o, none⟩ (.int .i64 u)) g (chK x k u) := by
 subst ho
 refine (heap_setCell_same w g (1 + k) _ _ _ h).trans ?_
 match k, hk with
 | 0, _ => rfl
 | 1, _ => rfl
 | 2, _ => rfl
 | 3, _ => rfl
theorem NdBox.cells {w : World} {g : Nat} {x : Nd} (h : NdBox w g x) : w.cell? ⟨g, 0, none⟩ = some (.int .i64 x.lv) ∧ w.cell? ⟨g, 1, none⟩ = some (.int .i64 x.a) ∧ w.cell? ⟨g, 2, none⟩ = some (.int .i64 x.b) ∧ w.cell? ⟨g, 3, none⟩ = some (.int .i64 x.c) ∧ w.cell? ⟨g, 4, none⟩ = some (.int .i64 x.d) := h.at_
theorem NdBox.kidAw {w : World} {g : Nat} {x : Nd} (h : NdBox w g x) {k : Nat} (hk : k < 4) : w.cell? ⟨g, 1 + k, none⟩ = some (.int .i64 (x.kid k)) := by
 have := h.at_.kid hk
 rwa [show 0 + 1 + k = 1 + k by omega] at this
theorem NdBox.grow2 {w w6 : World} {g : Nat} {x : Nd} {o1 o2 : Obj} {r : Option Nat} (h : NdBox w g x) (hg : ((w.alloc o1).alloc o2).grownBy w6 r) (hr : some g ≠ r) : NdBox w6 g x := by
 have h1 := h.stay (Below.heap_alloc w o1 _ h.lt)
 have h2 := h1.stay (Below.heap_alloc _ o2 _ h1.lt)
 exact h2.stay (hg.block _ h2.lt hr)
theorem own_new2 {w : World} {v v' : Value} {o1 o2 : Obj} (h : v'.ownBlock = v.ownBlock ∨ v'.ownBlock = some ((w.alloc o1).alloc o2).heap.size) : v'.ownBlock = v.ownBlock ∨ v'.ownBlock = some (w.heap.size + 2) := by
 rcases h with h | h
 ·
  exact .inl h
 ·
  exact .inr (by rw [h]; simp)
theorem apart_new {v v' : Value} {s a b : Nat} (h : ∀ k, v.ownBlock = some k → k ≠ a ∧ k ≠ b) (hk : v'.ownBlock = v.ownBlock ∨ v'.ownBlock = some (s + 2)) (hs : a < s ∧ b < s) : ∀ k, v'.ownBlock = some k → k ≠ a ∧ k ≠ b := by
 intro k e
 rcases hk with h1 | h1
 ·
  exact h k (h1.symm.trans e)
 ·
  rw [h1] at e
  cases e
  omega
set_option maxHeartbeats 6400000 in
theorem wider_any (n base : Nat) (val : Value) (l : List Nd) (w : World) (h : OwnN w base val l) (hn : l.length = n) (hn9 : n ≤ 900000) (h0 : 0 < n) (hl : looseB l = true) (hu : (at_ l (n - 1)).lv ≤ 1328) (hb : base ≤ w.heap.size) :
  Calls Try.prog 77 #[val] w fun e w' => ∃ v, e = .returned v ∧ OwnN w' base v (wideF l) ∧ Below base w w' := by
 obtain ⟨A, c, rfl, hns, -, -⟩ := h.shape
 have hcap := hns.cap
 rw [hn] at hcap ⊢
 obtain ⟨p, rfl⟩ : ∃ p, n = p + 1 := ⟨n - 1, by omega⟩
 rw [show p + 1 - 1 = p by omega] at hu
 obtain ⟨b, off, rfl, hbl, hc⟩ := hns.at_ (by omega)
 obtain ⟨c1, c2, c3, c4, c5⟩ := hc p (by omega)
 have hf := loose_fit hl (i := p) (by omega)
 have hwF : wideF l = (wdK l (at_ l p) 4).1 ++ [(wdK l (at_ l p) 4).2] := by unfold wideF; rw [hn]; rfl
 obtain ⟨t, ht⟩ : ∃ t, t = at_ l p := ⟨_, rfl⟩
 rw [← ht] at c1 c2 c3 c4 c5 hf hu hwF
 have hv := fit_lv hf
 have htw := fit_wf hf (by rw [hn]; omega)
 rw [hn] at h
 have i1 : (p : Int) < (p : Int) + 1 := by omega
 obtain ⟨W, hW⟩ : ∃ W : World, W = (w.alloc (.cells #[.int .i64 t.lv, .int .i64 t.a, .int .i64 t.b, .int .i64 t.c, .int .i64 t.d] 66)).alloc (.cells #[.int .i64 (t.lv + 1), .int .i64 0, .int .i64 0, .int .i64 0, .int .i64 0] 66) := ⟨_, rfl⟩
 obtain ⟨gt, hgt⟩ : ∃ gt, gt = w.heap.size := ⟨_, rfl⟩
 obtain ⟨gw, hgw⟩ : ∃ gw, gw = w.heap.size + 1 := ⟨_, rfl⟩
 have HBT := Lib.hid (show NdBox W gt t by rw [hW, hgt]; exact (NdBox.new w t).stay (Below.heap_alloc _ _ w.heap.size (by simp)))
 have HBX := Lib.hid (show NdBox W gw (wdK l t 0).2 by
  rw [hW, hgw]
  have h1 := NdBox.new (w.alloc (.cells #[.int .i64 t.lv, .int .i64 t.a, .int .i64 t.b, .int .i64 t.c, .int .i64 t.d] 66)) ⟨t.lv + 1, 0, 0, 0, 0⟩
  rwa [show (w.alloc (.cells #[.int .i64 t.lv, .int .i64 t.a, .int .i64 t.b, .int .i64 t.c, .int .i64 t.d] 66)).heap.size = w.heap.size + 1 by simp] at h1)
 have HOW := Lib.hid (show OwnN W base (.slice (some ⟨b, off, none⟩) (p + 1) c) (wdK l t 0).1 by rw [hW]; exact (h.alloc _).alloc _)
 have HBB := Lib.hid (show Below base w W by rw [hW]; exact ((Below.refl base w).alloc hb _).alloc (by simp; omega) _)
 have HAP := Lib.hid (show ∀ k, (Value.slice (some ⟨b, off, none⟩) (p + 1) c).ownBlock = some k → k ≠ gt ∧ k ≠ gw from fun k hk => by have := (h.lt k hk).2; omega)
 have HGG := Lib.hid (show base ≤ gt ∧ gw = gt + 1 by omega)
 have HWF := Lib.hid hwF
 have HL := Lib.hid hn
 have HV := Lib.hid hv
 have HTW := Lib.hid htw
 have HW := Lib.hid hW
 have hv1 := hv.1
 clear h hn hns hc h0 hbl hl hf hwF ht htw hW hv
 go_enter Try.func77, Try.ntmps77
 go_wp2_with fail
 rw [← HW.out, ← hgw, ← hgt]
 clear c1 c2 c3 c4 c5 hgt hgw hb
 go_loopw [20, 0, 5, 6, 7] (fun z1 z2 z3 z4 z5 wr => ∃ (q : Nat) (v u3 u4 u5 : Value), q ≤ 4 ∧ z1 = .int .i64 q ∧ v = z2 ∧ z3 = u3 ∧ z4 = u4 ∧ z5 = u5 ∧ OwnN wr base v (wdK l t q).1 ∧ NdBox wr gw (wdK l t q).2 ∧ NdBox wr gt t ∧ Below base w wr ∧ (∀ k, v.ownBlock = some k → k ≠ gt ∧ k ≠ gw)) (fun z1 _ _ _ _ _ => 4 - (intOf z1).toNat)
 case atStart => exact ⟨0, _, _, _, _, by omega, rfl, rfl, rfl, rfl, rfl, HOW.out, HBX.out, HBT.out, HBB.out, HAP.out⟩
 case round =>
  obtain ⟨q, v, u3, u4, u5, hq, rfl, rfl, rfl, rfl, rfl, how, hbx, hbt, hbw, hap⟩ := hrel
  have hm9 := wdK_len l t q
  have hxw := wdK_wf (l := l) HV.out (by rw [HL.out]; omega) q hq
  obtain ⟨G, hG⟩ : ∃ G, G = (wdK l t q).1 := ⟨_, rfl⟩
  obtain ⟨x, hx⟩ : ∃ x, x = (wdK l t q).2 := ⟨_, rfl⟩
  obtain ⟨m, hm⟩ : ∃ m, m = G.length := ⟨_, rfl⟩
  rw [← hG] at how hm9
  rw [← hx] at hbx hxw
  rw [← hm, HL.out] at hm9
  have HO := Lib.hid how
  have HX := Lib.hid hbx
  have HT := Lib.hid hbt
  have HB := Lib.hid hbw
  have HP := Lib.hid hap
  obtain ⟨A2, c2, hv2, hn2, -, -⟩ := HO.out.shape
  have hc2 := hn2.cap
  rw [← hm] at hv2 hc2
  subst hv2
  have HM := Lib.hid hm
  have HG := Lib.hid hG
  have HXX := Lib.hid hx
  have HXW := Lib.hid hxw
  clear how hbx hbt hbw hap hn2 hm hG hx hxw
  by_cases hq4 : q < 4
  ·
   have hi := index4 t q hq4
   have i2 : (q : Int) < 4 := by omega
   obtain ⟨y, hy⟩ : ∃ y, y = t.kid q := ⟨_, rfl⟩
   rw [← hy] at hi
   have HY := Lib.hid hy
   have hyw : in64 y := by rw [hy]; exact HTW.out.kid q
   have HYW := Lib.hid hyw
   clear hyw
   by_cases hy0 : y = 0
   ·
    subst hy0
    have HS := Lib.hid (wdK_skip (l := l) hy.symm)
    clear hy
    go_wp2_with fail
    go_roundw
    case rel => exact ⟨q + 1, _, _, _, _, by omega, by go_num, rfl, rfl, rfl, rfl, by rw [HS.out, ← HG.out]; exact HO.out, by rw [HS.out, ← HXX.out]; exact HX.out, HT.out, HB.out, HP.out⟩
    case measure => simp [intOf]; omega
   ·
    have t2 : (y == 0) = false := beq_eq_false_iff_ne.2 hy0
    have HS := Lib.hid (wdK_next (l := l) (show t.kid q ≠ 0 by rw [← hy]; exact hy0))
    obtain ⟨d1, d2, d3, d4, d5⟩ := HT.out.cells
    have hso : base ≤ wr.heap.size := Nat.le_of_lt (Nat.lt_of_le_of_lt HGG.out.1 HT.out.lt)
    have HBS := Lib.hid hso
    have hgw := HX.out.lt
    have fz := HX.out.free (1 + q)
    have HCW := Lib.hid (show ∀ k, (chK ⟨t.lv, 0, 0, 0, 0⟩ k y).wf from fun k => chK_wf (x := ⟨t.lv, 0, 0, 0, 0⟩) ⟨HTW.out.1, in64_0, in64_0, in64_0, in64_0⟩ k HYW.out)
    have hq4' : q = 0 ∨ q = 1 ∨ q = 2 ∨ q = 3 := by omega
    have HNE := Lib.hid hy0
    clear hy hso hy0
    rcases hq4' with rfl | rfl | rfl | rfl
    ·
     rw [show ((0 : Nat) : Int) = 0 from rfl] at hi i2 ⊢
     have HS' := Lib.hid (show wdK l t 1 = (G ++ [(chK ⟨t.lv, 0, 0, 0, 0⟩ 3 y)], chK x 0 ((m : Int) + 1)) by
      have h := HS.out
      rw [← HG.out, ← HXX.out, ← HM.out, ← HY.out, show ((m + 1 : Nat) : Int) = (m : Int) + 1 by omega] at h
      exact h)
     go_wp2_with (at_builtin; go_loud (refine wpList_append_nodes _ rfl _ _ rfl base _ G [(chK ⟨t.lv, 0, 0, 0, 0⟩ 3 y)] _ 1 1 rfl rfl ((HO.out.alloc _).alloc _) (ns_lit1 _ _ (chK ⟨t.lv, 0, 0, 0, 0⟩ 3 y) (HCW.out 3) (by simp)) rfl (fun e => by cases e) (by rw [← HM.out]; omega) (by have := HBS.out; simp; omega) ?_; intro v6 w6 ho6 hg6 hk6; obtain ⟨A6, c6, hv6, -, -, -⟩ := ho6.shape; rw [List.length_append, ← HM.out, List.length_singleton] at hv6; subst hv6; have hx6 := HX.out.grow2 hg6 (fun e => (HP.out gw e.symm).2 rfl); have ht6 := HT.out.grow2 hg6 (fun e => (HP.out gt e.symm).1 rfl); have HX6 := Lib.hid hx6; have HT6 := Lib.hid ht6; have HO6 := Lib.hid ho6; have HB6 := Lib.hid ((((HB.out.alloc HBS.out _).alloc (by have := HBS.out; simp; omega) _)).grown hg6 (by have := HBS.out; simp; omega) (fun k hk => (HO.out.lt k hk).1)); have HK6 := Lib.hid (own_new2 hk6); obtain ⟨x0, x1, x2, x3, x4⟩ := hx6.cells; have z1 := hx6.free 1; clear ho6 hg6 hk6 hx6 ht6))
     go_roundw
     case rel =>
      refine ⟨1, _, _, _, _, by omega, by go_num, rfl, rfl, rfl, rfl, ?_, ?_, ?_, ?_, ?_⟩
      ·
       rw [HS'.out]
       exact HO6.out.gbr (gb_setCell _ _ _) (own_dec fun k hk e => by have h1 := Option.some.inj e; exact (apart_new HP.out HK6.out (by have := HX.out.lt; have := HGG.out.2; omega) k hk).2 h1.symm)
      ·
       rw [HS'.out]
       exact HX6.out.chK (k := 0) (by omega) rfl _
      ·
       exact HT6.out.stay (Below.heap_setCell _ _ _ _ (by have := HGG.out.2; show gt ≠ gw; omega))
      ·
       exact HB6.out.setCell (by have := HGG.out; show base ≤ gw; omega) _
      ·
       exact apart_new HP.out HK6.out (by have := HX.out.lt; have := HGG.out.2; omega)
     case measure => simp [intOf]; try omega
    ·
     rw [show ((1 : Nat) : Int) = 1 from rfl] at hi i2 ⊢
     have HS' := Lib.hid (show wdK l t 2 = (G ++ [(chK ⟨t.lv, 0, 0, 0, 0⟩ 2 y)], chK x 1 ((m : Int) + 1)) by
      have h := HS.out
      rw [← HG.out, ← HXX.out, ← HM.out, ← HY.out, show ((m + 1 : Nat) : Int) = (m : Int) + 1 by omega] at h
      exact h)
     go_wp2_with (at_builtin; go_loud (refine wpList_append_nodes _ rfl _ _ rfl base _ G [(chK ⟨t.lv, 0, 0, 0, 0⟩ 2 y)] _ 1 1 rfl rfl ((HO.out.alloc _).alloc _) (ns_lit1 _ _ (chK ⟨t.lv, 0, 0, 0, 0⟩ 2 y) (HCW.out 2) (by simp)) rfl (fun e => by cases e) (by rw [← HM.out]; omega) (by have := HBS.out; simp; omega) ?_; intro v6 w6 ho6 hg6 hk6; obtain ⟨A6, c6, hv6, -, -, -⟩ := ho6.shape; rw [List.length_append, ← HM.out, List.length_singleton] at hv6; subst hv6; have hx6 := HX.out.grow2 hg6 (fun e => (HP.out gw e.symm).2 rfl); have ht6 := HT.out.grow2 hg6 (fun e => (HP.out gt e.symm).1 rfl); have HX6 := Lib.hid hx6; have HT6 := Lib.hid ht6; have HO6 := Lib.hid ho6; have HB6 := Lib.hid ((((HB.out.alloc HBS.out _).alloc (by have := HBS.out; simp; omega) _)).grown hg6 (by have := HBS.out; simp; omega) (fun k hk => (HO.out.lt k hk).1)); have HK6 := Lib.hid (own_new2 hk6); obtain ⟨x0, x1, x2, x3, x4⟩ := hx6.cells; have z1 := hx6.free 2; clear ho6 hg6 hk6 hx6 ht6))
     go_roundw
     case rel =>
      refine ⟨2, _, _, _, _, by omega, by go_num, rfl, rfl, rfl, rfl, ?_, ?_, ?_, ?_, ?_⟩
      ·
       rw [HS'.out]
       exact HO6.out.gbr (gb_setCell _ _ _) (own_dec fun k hk e => by have h1 := Option.some.inj e; exact (apart_new HP.out HK6.out (by have := HX.out.lt; have := HGG.out.2; omega) k hk).2 h1.symm)
      ·
       rw [HS'.out]
       exact HX6.out.chK (k := 1) (by omega) rfl _
      ·
       exact HT6.out.stay (Below.heap_setCell _ _ _ _ (by have := HGG.out.2; show gt ≠ gw; omega))
      ·
       exact HB6.out.setCell (by have := HGG.out; show base ≤ gw; omega) _
      ·
       exact apart_new HP.out HK6.out (by have := HX.out.lt; have := HGG.out.2; omega)
     case measure => simp [intOf]; try omega
    ·
     rw [show ((2 : Nat) : Int) = 2 from rfl] at hi i2 ⊢
     have HS' := Lib.hid (show wdK l t 3 = (G ++ [(chK ⟨t.lv, 0, 0, 0, 0⟩ 1 y)], chK x 2 ((m : Int) + 1)) by
      have h := HS.out
      rw [← HG.out, ← HXX.out, ← HM.out, ← HY.out, show ((m + 1 : Nat) : Int) = (m : Int) + 1 by omega] at h
      exact h)
     go_wp2_with (at_builtin; go_loud (refine wpList_append_nodes _ rfl _ _ rfl base _ G [(chK ⟨t.lv, 0, 0, 0, 0⟩ 1 y)] _ 1 1 rfl rfl ((HO.out.alloc _).alloc _) (ns_lit1 _ _ (chK ⟨t.lv, 0, 0, 0, 0⟩ 1 y) (HCW.out 1) (by simp)) rfl (fun e => by cases e) (by rw [← HM.out]; omega) (by have := HBS.out; simp; omega) ?_; intro v6 w6 ho6 hg6 hk6; obtain ⟨A6, c6, hv6, -, -, -⟩ := ho6.shape; rw [List.length_append, ← HM.out, List.length_singleton] at hv6; subst hv6; have hx6 := HX.out.grow2 hg6 (fun e => (HP.out gw e.symm).2 rfl); have ht6 := HT.out.grow2 hg6 (fun e => (HP.out gt e.symm).1 rfl); have HX6 := Lib.hid hx6; have HT6 := Lib.hid ht6; have HO6 := Lib.hid ho6; have HB6 := Lib.hid ((((HB.out.alloc HBS.out _).alloc (by have := HBS.out; simp; omega) _)).grown hg6 (by have := HBS.out; simp; omega) (fun k hk => (HO.out.lt k hk).1)); have HK6 := Lib.hid (own_new2 hk6); obtain ⟨x0, x1, x2, x3, x4⟩ := hx6.cells; have z1 := hx6.free 3; clear ho6 hg6 hk6 hx6 ht6))
     go_roundw
     case rel =>
      refine ⟨3, _, _, _, _, by omega, by go_num, rfl, rfl, rfl, rfl, ?_, ?_, ?_, ?_, ?_⟩
      ·
       rw [HS'.out]
       exact HO6.out.gbr (gb_setCell _ _ _) (own_dec fun k hk e => by have h1 := Option.some.inj e; exact (apart_new HP.out HK6.out (by have := HX.out.lt; have := HGG.out.2; omega) k hk).2 h1.symm)
      ·
       rw [HS'.out]
       exact HX6.out.chK (k := 2) (by omega) rfl _
      ·
       exact HT6.out.stay (Below.heap_setCell _ _ _ _ (by have := HGG.out.2; show gt ≠ gw; omega))
      ·
       exact HB6.out.setCell (by have := HGG.out; show base ≤ gw; omega) _
      ·
       exact apart_new HP.out HK6.out (by have := HX.out.lt; have := HGG.out.2; omega)
     case measure => simp [intOf]; try omega
    ·
     rw [show ((3 : Nat) : Int) = 3 from rfl] at hi i2 ⊢
     have HS' := Lib.hid (show wdK l t 4 = (G ++ [(chK ⟨t.lv, 0, 0, 0, 0⟩ 0 y)], chK x 3 ((m : Int) + 1)) by
      have h := HS.out
      rw [← HG.out, ← HXX.out, ← HM.out, ← HY.out, show ((m + 1 : Nat) : Int) = (m : Int) + 1 by omega] at h
      exact h)
     go_wp2_with (at_builtin; go_loud (refine wpList_append_nodes _ rfl _ _ rfl base _ G [(chK ⟨t.lv, 0, 0, 0, 0⟩ 0 y)] _ 1 1 rfl rfl ((HO.out.alloc _).alloc _) (ns_lit1 _ _ (chK ⟨t.lv, 0, 0, 0, 0⟩ 0 y) (HCW.out 0) (by simp)) rfl (fun e => by cases e) (by rw [← HM.out]; omega) (by have := HBS.out; simp; omega) ?_; intro v6 w6 ho6 hg6 hk6; obtain ⟨A6, c6, hv6, -, -, -⟩ := ho6.shape; rw [List.length_append, ← HM.out, List.length_singleton] at hv6; subst hv6; have hx6 := HX.out.grow2 hg6 (fun e => (HP.out gw e.symm).2 rfl); have ht6 := HT.out.grow2 hg6 (fun e => (HP.out gt e.symm).1 rfl); have HX6 := Lib.hid hx6; have HT6 := Lib.hid ht6; have HO6 := Lib.hid ho6; have HB6 := Lib.hid ((((HB.out.alloc HBS.out _).alloc (by have := HBS.out; simp; omega) _)).grown hg6 (by have := HBS.out; simp; omega) (fun k hk => (HO.out.lt k hk).1)); have HK6 := Lib.hid (own_new2 hk6); obtain ⟨x0, x1, x2, x3, x4⟩ := hx6.cells; have z1 := hx6.free 4; clear ho6 hg6 hk6 hx6 ht6))
     go_roundw
     case rel =>
      refine ⟨4, _, _, _, _, by omega, by go_num, rfl, rfl, rfl, rfl, ?_, ?_, ?_, ?_, ?_⟩
      ·
       rw [HS'.out]
       exact HO6.out.gbr (gb_setCell _ _ _) (own_dec fun k hk e => by have h1 := Option.some.inj e; exact (apart_new HP.out HK6.out (by have := HX.out.lt; have := HGG.out.2; omega) k hk).2 h1.symm)
      ·
       rw [HS'.out]
       exact HX6.out.chK (k := 3) (by omega) rfl _
      ·
       exact HT6.out.stay (Below.heap_setCell _ _ _ _ (by have := HGG.out.2; show gt ≠ gw; omega))
      ·
       exact HB6.out.setCell (by have := HGG.out; show base ≤ gw; omega) _
      ·
       exact apart_new HP.out HK6.out (by have := HX.out.lt; have := HGG.out.2; omega)
     case measure => simp [intOf]; try omega
  ·
   have hq5 : q = 4 := by omega
   subst hq5
   obtain ⟨x0, x1, x2, x3, x4⟩ := HX.out.cells
   have hso : base ≤ wr.heap.size := Nat.le_of_lt (Nat.lt_of_le_of_lt HGG.out.1 HT.out.lt)
   have HBS := Lib.hid hso
   clear hso
   go_wp2_with (at_builtin; go_loud (refine wpList_append_nodes _ rfl _ _ rfl base _ G [x] _ 1 1 rfl rfl (HO.out.alloc _) (ns_lit1 _ _ x HXW.out rfl) rfl (fun e => by cases e) (by rw [← HM.out]; omega) (by have := HBS.out; simp; omega) ?_; intro v6 w6 ho6 hg6 hk6; have HO6 := Lib.hid ho6; have HB6 := Lib.hid ((HB.out.alloc HBS.out _).grown hg6 (by have := HBS.out; simp; omega) (fun k hk => (HO.out.lt k hk).1)); clear ho6 hg6 hk6))
   go_ret
   refine ⟨v6, rfl, ?_, HB6.out⟩
   rw [HWF.out, ← HG.out, ← HXX.out]
   exact HO6.out
end Go.Proofs.Ytlnmcilcifbcnaa

namespace Go.Proofs.Ytlnmcilcifbcnaa
open Go.RowKit Nds
def growQ (lv : Nat) (q : List Nd) : List Nd := if q.length = 0 then [] else growF (lv - (at_ q (q.length - 1)).lv.toNat) q
theorem wdK_more (l : List Nd) (t : Nd) : ∀ k, l.length ≤ (wdK l t k).1.length
 | 0 => Nat.le_refl _
 | k + 1 => by
  have := wdK_more l t k
  by_cases h : t.kid k = 0
  ·
   rw [wdK_skip h]; omega
  ·
   rw [wdK_next h]; simp; omega
theorem wide_more (l : List Nd) : l.length + 1 ≤ (wideF l).length := by
 unfold wideF
 have := wdK_more l (at_ l (l.length - 1)) 4
 rw [List.length_append, List.length_singleton]
 omega
theorem own_end {w : World} {base n : Nat} {v : Value} {l : List Nd} (h : OwnN w base v l) (hn : l.length = n + 1) :
  ∃ A c g off, v = .slice (some ⟨g, off, none⟩) (n + 1) c ∧ w.cell? ⟨g, off + n * 5, none⟩ = some (.int .i64 (at_ l n).lv) ∧ (n + 1 ≤ c ∧ A = some (⟨g, off, none⟩ : Addr)) := by
 obtain ⟨A, c, hv, hns, -, -⟩ := h.shape
 have hcap := hns.cap
 obtain ⟨g, off, rfl, -, hc⟩ := hns.at_ (by omega)
 exact ⟨_, c, g, off, by rw [hv, hn], (hc n (by omega)).1, by omega, rfl⟩
structure GrS (lv : Nat) (q : List Nd) (d m : Nat) (g : List Nd) : Prop where
 loose : looseB g = true
 size : g.length = m + 1
 low : (lv : Int) ≤ (at_ g m).lv + d
 up : 0 < d → (at_ g m).lv + d = lv
 len : m + 5 * d ≤ q.length + 6645
 same : growF d g = growQ lv q
theorem GrS.start {lv : Nat} {q : List Nd} (hl : looseB q = true) (h9 : lv ≤ 1329) {p : Nat} (hp : q.length = p + 1) : GrS lv q (lv - (at_ q p).lv.toNat) p q := by
 have hv := fit_lv (loose_fit hl (i := p) (by omega))
 refine ⟨hl, hp, by omega, fun h => by omega, by omega, ?_⟩
 unfold growQ
 rw [if_neg (by omega), hp, Nat.add_sub_cancel]
theorem GrS.next {lv : Nat} {q g : List Nd} (h9 : lv ≤ 1329) {d m : Nat} (h : GrS lv q (d + 1) m g) : ∃ m2, GrS lv q d m2 (wideF g) ∧ m < m2 ∧ m2 ≤ m + 5 := by
 have hu := h.up (by omega)
 have hf := fit_lv (loose_fit h.loose (i := m) (by rw [h.size]; omega))
 obtain ⟨k, hk⟩ : ∃ k : Nat, (at_ g m).lv = (k : Int) + 1 := ⟨((at_ g m).lv - 1).toNat, by omega⟩
 have hs := h.size
 obtain ⟨w1, w2⟩ := wide_spec h.loose (m := k) (by omega) (by rw [hs, Nat.add_sub_cancel]; exact hk) (by omega)
 have hm := wide_more g
 have hlv := w1.lv
 obtain ⟨m2, hm2⟩ : ∃ m2, (wideF g).length = m2 + 1 := ⟨(wideF g).length - 1, by omega⟩
 rw [hm2, Nat.add_sub_cancel] at hlv
 have hlen := h.len
 exact ⟨m2, ⟨w1.loose, hm2, by rw [hlv]; omega, fun h2 => by rw [hlv]; omega, by omega, h.same⟩, by omega, by omega⟩
set_option maxHeartbeats 6400000 in
theorem grow_lk (A : Option Addr) (c n lv : Nat) (q : List Nd) (w : World) (h : Ns w A c q) (hn : q.length = n) (hn9 : n ≤ 800000) (hl : looseB q = true) (hlv : lv ≤ 1329) (hA : A = none → c = 0) :
  Calls Try.prog 42 #[.agg #[.slice A n c], .int .i64 (lv : Int)] w fun e w' => ∃ v, e = .returned (.tuple #[v, .int .i64 ((growQ lv q).length : Nat)]) ∧ OwnN w' w.heap.size v (growQ lv q) ∧ Below w.heap.size w w' := by
 have hcap := h.cap
 rw [hn] at hcap
 have hb := (Below.refl w.heap.size w).alloc (Nat.le_refl _) (.cells #[.slice A n c] 31)
 have HB := Lib.hid hb
 have HN := Lib.hid (h.below hb)
 have HA := Lib.hid hA
 have HL := Lib.hid hn
 have HLL := Lib.hid hl
 obtain ⟨R, hR⟩ : ∃ R, R = growQ lv q := ⟨_, rfl⟩
 rw [← hR]
 have HR := Lib.hid hR
 have t9 : decide ((lv : Int) > 1329) = false := decide_eq_false (by omega)
 have t8 : decide ((1329 : Int) < (lv : Int)) = false := t9
 rcases Nat.eq_zero_or_pos n with h0 | h0
 ·
  subst h0
  have HZ := Lib.hid (show R = [] by rw [hR]; unfold growQ; rw [if_pos hn])
  have HQ := Lib.hid (List.eq_nil_of_length_eq_zero hn)
  clear h hb hA hn hl hR
  go_enter Try.func42, Try.ntmps42
  go_wp2_with (go_at_call 40; go_loud (refine (clone_any _ _ 0 q _ HN.out HL.out (by omega) HA.out).mono ?_; rintro e w1 ⟨v, rfl, o1, b1⟩; obtain ⟨A1, c1, hv, -, -, -⟩ := o1.shape; rw [HL.out] at hv; subst hv; have HO := Lib.hid (o1.mono HB.out.size); have HB1 := Lib.hid (HB.out.trans (b1.mono HB.out.size)); clear o1 b1))
  go_ret2
  refine ⟨_, by rw [HZ.out]; rfl, ?_, HB1.out⟩
  rw [HZ.out, ← HQ.out]
  exact HO.out
 ·
  obtain ⟨p, rfl⟩ : ∃ p, n = p + 1 := ⟨n - 1, by omega⟩
  have HS := Lib.hid (GrS.start hl hlv hn)
  have t7 : ((p : Int) + 1 == 0) = false := beq_eq_false_iff_ne.2 (by omega)
  clear h hb hA hn hl hR
  go_enter Try.func42, Try.ntmps42
  go_wp2_with (go_at_call 40; go_loud (refine (clone_any _ _ (p + 1) q _ HN.out HL.out (by omega) HA.out).mono ?_; rintro e w1 ⟨v, rfl, o1, b1⟩; obtain ⟨A1, c1, hv, -, -, -⟩ := o1.shape; rw [HL.out] at hv; subst hv; have HO := Lib.hid (o1.mono HB.out.size); have HB1 := Lib.hid (HB.out.trans (b1.mono HB.out.size)); clear o1 b1))
  go_loopw [6] (fun z6 wr => ∃ (d m : Nat) (g : List Nd) (v : Value), v = z6 ∧ OwnN wr w.heap.size v g ∧ Below w.heap.size w wr ∧ GrS lv q d m g) (fun z6 _ => p + 10000 - lenOf z6)
  case atStart => exact ⟨_, _, _, _, rfl, HO.out, HB1.out, HS.out⟩
  case round =>
   obtain ⟨d, m, g, v, rfl, how, hbw, hgs⟩ := hrel
   obtain ⟨A2, c2, g2, off, hv2, hcl, hcp, -⟩ := own_end how hgs.size
   subst hv2
   have hm9 : m ≤ 890000 := by have := hgs.len; have := HL.out; omega
   obtain ⟨u, hu⟩ : ∃ u, u = (at_ g m).lv := ⟨_, rfl⟩
   rw [← hu] at hcl
   have HOW := Lib.hid how
   have HBW := Lib.hid hbw
   have HGS := Lib.hid hgs
   have HU := Lib.hid hu
   have i1 : (m : Int) < (m : Int) + 1 := by omega
   cases d with
   | zero =>
    have t1 : decide (u < (lv : Int)) = false := decide_eq_false (by have := hgs.low; rw [hu]; omega)
    have HG := Lib.hid (show g = R by rw [HR.out]; exact hgs.same)
    clear how hbw hgs hu
    go_wp2_with fail
    go_ret2
    refine ⟨_, ?_, by rw [← HG.out]; exact HOW.out, HBW.out⟩
    rw [← HG.out, HGS.out.size]
    rfl
   | succ d =>
    have hup := hgs.up (by omega)
    have t1 : decide (u < (lv : Int)) = true := decide_eq_true (by rw [hu]; omega)
    have HUP := Lib.hid hup
    obtain ⟨m2, hn2, hm2, hm25⟩ := hgs.next hlv
    have HN2 := Lib.hid hn2
    clear how hbw hgs hu hup hn2
    go_wp2_with (go_at_call 77; go_loud (refine (wider_any (m + 1) w.heap.size _ g _ HOW.out HGS.out.size (by omega) (by omega) HGS.out.loose (by rw [Nat.add_sub_cancel]; have := HUP.out; omega) HBW.out.size).mono ?_; rintro e w2 ⟨v2, rfl, o2, b2⟩; have HO2 := Lib.hid o2; have HB2 := Lib.hid (HBW.out.trans b2); clear o2 b2))
    go_roundw
    case rel => exact ⟨d, m2, wideF g, v2, rfl, HO2.out, HB2.out, HN2.out⟩
    case measure =>
     have h1 := HO2.out.len
     rw [HN2.out.size] at h1
     have h2 : lenOf (Value.slice (some ⟨g2, off, none⟩) (m + 1) c2) = m + 1 := rfl
     have h3 := HN2.out.len
     have h4 := HL.out
     rw [h1, h2]
     omega
end Go.Proofs.Ytlnmcilcifbcnaa

namespace Go.Proofs.Ytlnmcilcifbcnaa
open Go.RowKit Num Nds
def CutN (w : World) (base : Nat) (v : Value) (l : List Nd) : Prop := OwnN w base v l ∨ ∃ A d, v = .slice A l.length l.length ∧ Ns w A d l ∧ (A = none → l.length = 0)
theorem run_append_cutn (w : World) (base : Nat) (v : Value) (xs : List Nd) (y : Nd) (ty : TypeId) (ad : Addr) (c : Nat) (h : CutN w base v xs) (hN : Ns w (some ad) c [y]) (hs : xs.length + 1 ≤ 1000000) (hb : base ≤ w.heap.size) :
  ∃ v' w', (Builtin.append_ #[29, 29] ty #[v, .slice (some ad) 1 c]).run Try.prog w = .ok v' w' ∧ OwnN w' base v' (xs ++ [y]) ∧ ∃ r, w.grownBy w' r ∧ ∀ k, r = some k → base ≤ k := by
 have own : OwnN w base v xs → ∃ v' w', (Builtin.append_ #[29, 29] ty #[v, .slice (some ad) 1 c]).run Try.prog w = .ok v' w' ∧ OwnN w' base v' (xs ++ [y]) ∧ ∃ r, w.grownBy w' r ∧ ∀ k, r = some k → base ≤ k := fun how => by
  obtain ⟨v', w', hrun, h1, h2, -⟩ := run_append_nodes w base v xs [y] ty (some ad) 1 c how hN rfl (fun e => by cases e) hs hb
  exact ⟨v', w', hrun, h1, v.ownBlock, h2, fun k hk => (how.lt k hk).1⟩
 rcases h with h | ⟨A, d, hv, hn, ha⟩
 ·
  exact own h
 ·
  cases A with
  | none =>
   have h0 := List.eq_nil_of_length_eq_zero (ha rfl)
   subst h0
   subst hv
   exact own (ownN_none w base)
  | some b =>
   obtain ⟨i0, hi, hz0, hz1, hz2⟩ := info_parts Try.infoN
   subst hv
   obtain ⟨v', w', hrun, h1, h2⟩ := run_append_arg_grows (P := Try.prog) w 29 ty 66 i0 (ndv nd0) 5 40 Try.underlying29 hi hz0 hz1 hz2 rfl (by omega) b xs.length xs.length (ndcs xs) (ndcs_len xs) (hn.cells rfl) ad 1 c (ndcs [y]) (ndcs_len [y]) (hN.cells rfl) (by omega) (by simp only [maxLen]; omega) (by omega)
   have hwf : ∀ x ∈ xs ++ [y], x.wf := fun x hx => by
    rcases List.mem_append.1 hx with h | h
    ·
     exact hn.1 x h
    ·
     exact hN.1 x h
   refine ⟨v', w', hrun, OwnN.mono (base := w.heap.size) ⟨hwf, ?_⟩ hb, none, h2, fun k hk => by cases hk⟩
   rw [ndcs_app, List.length_append]
   exact h1
theorem oper_append_cutn {w : World} {o : Oper} {a : Act} {K : Act → World → Prop} {Q : Exit → Act → World → Prop} (s x : Operand)
  (hop : o.op = Op.call { callee := Callee.builtin Builtin.append, args := #[s, x], argTypes := #[29, 29] }) (base : Nat) (v : Value) (xs : List Nd) (y : Nd) (ad : Addr) (c : Nat)
  (hs : a.eval s = v) (hx : a.eval x = .slice (some ad) 1 c) (how : CutN w base v xs) (hN : Ns w (some ad) c [y]) (hsz : xs.length + 1 ≤ 1000000) (hb : base ≤ w.heap.size)
  (h : ∀ v' w' r, OwnN w' base v' (xs ++ [y]) → w.grownBy w' r → (∀ k, r = some k → base ≤ k) → K (a.put o.dst v') w') : Oper.wp Try.prog o a w K Q := by
 obtain ⟨v', w', hrun, h1, r, h2, h3⟩ := run_append_cutn w base v xs y o.type ad c how hN hsz hb
 unfold Oper.wp execOp
 simp only [hop, resolve, invoke, builtin, Sem.run_bind, Sem.run_pure, Result.andThen_ok, List.map_toArray, List.map_cons, List.map_nil, hs, hx, hrun]
 exact h v' w' r h1 h2 h3
theorem CutN.keep {w w' : World} {base : Nat} {v : Value} {l : List Nd} (h : CutN w base v l) (hb : Below w.heap.size w w') : CutN w' base v l := by
 rcases h with h | ⟨A, d, hv, hn, ha⟩
 ·
  exact .inl (h.stays hb)
 ·
  exact .inr ⟨A, d, hv, hn.below hb, ha⟩
def SetB (w : World) (bb : Nat) (v : Cv) (nv : Value) (s : Nat) : Prop := w.heap[bb]? = some (.cells #[.bool v.sx, .slice v.ax v.xs.length v.cx, .bool v.sy, .slice v.ay v.ys.length v.cy, nv, .int .u8 (s : Int)] 74)
theorem SetB.lt {w : World} {bb : Nat} {v : Cv} {nv : Value} {s : Nat} (h : SetB w bb v nv s) : bb < w.heap.size := (Array.getElem?_eq_some_iff.1 h).1
theorem SetB.stay {w w' : World} {bb : Nat} {v : Cv} {nv : Value} {s : Nat} (h : SetB w bb v nv s) (hb : w'.heap[bb]? = w.heap[bb]?) : SetB w' bb v nv s := hb.trans h
theorem SetB.free {w : World} {bb : Nat} {v : Cv} {nv : Value} {s : Nat} (h : SetB w bb v nv s) (k : Nat) : w.frozen? ⟨bb, k, none⟩ = false := frozen_of_row w bb k _ _ h
theorem SetB.at_ {w : World} {bb : Nat} {v : Cv} {nv : Value} {s : Nat} (h : SetB w bb v nv s) : w.cell? ⟨bb, 0, none⟩ = some (.bool v.sx) ∧ w.cell? ⟨bb, 1, none⟩ = some (.slice v.ax v.xs.length v.cx) ∧ w.cell? ⟨bb, 2, none⟩ = some (.bool v.sy) ∧ w.cell? ⟨bb, 3, none⟩ = some (.slice v.ay v.ys.length v.cy) ∧ w.cell? ⟨bb, 4, none⟩ = some nv ∧ w.cell? ⟨bb, 5, none⟩ = some (.int .u8 (s : Int)) := by
 refine ⟨?_, ?_, ?_, ?_, ?_, ?_⟩ <;> (rw [cell_of_row w bb _ _ _ (0, 0) h]; rfl)
theorem SetB.put {w : World} {bb : Nat} {v : Cv} {nv : Value} {s : Nat} (h : SetB w bb v nv s) (nu : Value) : SetB (w.setCell ⟨bb, 4, none⟩ nu) bb v nu s := (heap_setCell_same w bb 4 _ _ _ h).trans rfl
def OffB (bb : Nat) (v : Cv) : Prop := (0 < v.xs.length → ∀ a, v.ax = some a → a.block ≠ bb) ∧ (0 < v.ys.length → ∀ a, v.ay = some a → a.block ≠ bb)
theorem ky_us {P : Nat → Prop} {w w' : World} (h : Ky P w w') {A : Option Addr} {c : Nat} {xs : List Nat} (u : Us w A c xs) (hp : 0 < xs.length → ∀ a, A = some a → ¬ P a.block) : Us w' A c xs :=
 ⟨u.1, u.2.1, u.2.2.1, fun hn => by
  obtain ⟨b, off, e, hlt, hc⟩ := u.2.2.2 hn
  exact ⟨b, off, e, Nat.lt_of_lt_of_le hlt h.size, fun j v hv => h.cell (hc j v hv) (show ¬ P b from hp (by simpa using hn) ⟨b, off, none⟩ e)⟩⟩
def pF (m : Nat) (l : List Nd) (k : Int) (X Y : Nat) (s : Int) : List Nd × Int := putF m l k ((X % 2 ^ m : Nat) : Int) ((Y % 2 ^ m : Nat) : Int) s
theorem pF_zero (l : List Nd) (k : Int) (X Y : Nat) (s : Int) : pF 0 l k X Y s = (l, s) := rfl
theorem pF_succ (m : Nat) (l : List Nd) (k : Int) (X Y : Nat) (s : Int) : pF (m + 1) l k X Y s = ((pF m l ((nodeF m l k).kid (qtr m X Y)) X Y s).1 ++ [chK (nodeF m l k) (qtr m X Y) (pF m l ((nodeF m l k).kid (qtr m X Y)) X Y s).2], (((pF m l ((nodeF m l k).kid (qtr m X Y)) X Y s).1.length + 1 : Nat) : Int)) := by
 obtain ⟨b1, b2⟩ := qt_bits m X Y
 obtain ⟨-, b3⟩ := qt_bits m Y X
 have hqt : qtI (p2 m) ((X % 2 ^ (m + 1) : Nat) : Int) ((Y % 2 ^ (m + 1) : Nat) : Int) = qtr m X Y := b1
 have e : pF (m + 1) l k X Y s = ((putF m l ((nodeF m l k).kid (qtI (p2 m) ((X % 2 ^ (m + 1) : Nat) : Int) ((Y % 2 ^ (m + 1) : Nat) : Int))) (subI (p2 m) ((X % 2 ^ (m + 1) : Nat) : Int)) (subI (p2 m) ((Y % 2 ^ (m + 1) : Nat) : Int)) s).1 ++ [chK (nodeF m l k) (qtI (p2 m) ((X % 2 ^ (m + 1) : Nat) : Int) ((Y % 2 ^ (m + 1) : Nat) : Int)) (putF m l ((nodeF m l k).kid (qtI (p2 m) ((X % 2 ^ (m + 1) : Nat) : Int) ((Y % 2 ^ (m + 1) : Nat) : Int))) (subI (p2 m) ((X % 2 ^ (m + 1) : Nat) : Int)) (subI (p2 m) ((Y % 2 ^ (m + 1) : Nat) : Int)) s).2], (((putF m l ((nodeF m l k).kid (qtI (p2 m) ((X % 2 ^ (m + 1) : Nat) : Int) ((Y % 2 ^ (m + 1) : Nat) : Int))) (subI (p2 m) ((X % 2 ^ (m + 1) : Nat) : Int)) (subI (p2 m) ((Y % 2 ^ (m + 1) : Nat) : Int)) s).1.length + 1 : Nat) : Int)) := rfl
 rw [e, hqt, b2, b3]
 rfl
theorem pF_len (l : List Nd) (X Y : Nat) (s : Int) : ∀ (m : Nat) (k : Int), (pF m l k X Y s).1.length = l.length + m
 | 0, _ => rfl
 | m + 1, k => by
  rw [pF_succ]
  show ((pF m l ((nodeF m l k).kid (qtr m X Y)) X Y s).1 ++ [_]).length = _
  rw [List.length_append, List.length_singleton, pF_len l X Y s m]
  omega
theorem pF_num {l : List Nd} {X Y : Nat} {s : Int} (hs : 0 ≤ s ∧ s ≤ 255) (hl : l.length ≤ 990000) : ∀ (m : Nat) (k : Int), m ≤ 1329 → in64 (pF m l k X Y s).2
 | 0, k, _ => by rw [pF_zero]; exact ⟨by show _ ≤ s; omega, by show s ≤ _; omega⟩
 | m + 1, k, h => by
  rw [pF_succ]
  have := pF_len l X Y s m ((nodeF m l k).kid (qtr m X Y))
  exact ⟨by show _ ≤ (((pF m l ((nodeF m l k).kid (qtr m X Y)) X Y s).1.length + 1 : Nat) : Int); omega, by show (((pF m l ((nodeF m l k).kid (qtr m X Y)) X Y s).1.length + 1 : Nat) : Int) ≤ _; omega⟩
theorem kid_kind {l : List Nd} (hl : looseB l = true) {m : Nat} (hm : m ≤ 1328) {k : Int} (hk : kidB l (((m + 1 : Nat) : Int) + 1) k = true) {i : Nat} (hi : i < 4) : kidB l ((m : Int) + 1) ((nodeF m l k).kid i) = true := by
 obtain ⟨f1, f2, -⟩ := node_fit hl hm hk
 have := fit_kid f1 hi
 rwa [f2] at this
theorem node_wf {l : List Nd} (hl : looseB l = true) (hn : l.length ≤ 990000) {m : Nat} (hm : m ≤ 1328) {k : Int} (hk : kidB l (((m + 1 : Nat) : Int) + 1) k = true) : (nodeF m l k).wf ∧ (nodeF m l k).lv = (m : Int) + 1 := by
 obtain ⟨f1, f2, -⟩ := node_fit hl hm hk
 exact ⟨fit_wf f1 (by omega), f2⟩
def RetPu (bb : Nat) (v : Cv) (s : Nat) (A : Option Addr) (n : Nat) (l : List Nd) (r : List Nd × Int) (w : World) (e : Ending) (w' : World) : Prop :=
 ∃ nv, e = .returned (.int .i64 r.2) ∧ SetB w' bb v nv s ∧ (OwnN w' w.heap.size nv r.1 ∨ (nv = .slice A n n ∧ r.1 = l)) ∧ Ky (fun k => k = bb) w w'
end Go.Proofs.Ytlnmcilcifbcnaa

namespace Go.Proofs.Ytlnmcilcifbcnaa
open Go.RowKit Num Nds
theorem put_below4 {B : Nat} {a w : World} (h : Below B a w) {g : Nat} (hg : B ≤ g) {x1 x2 x3 x4 : Value} : Below B a ((((w.setCell ⟨g, 1, none⟩ x1).setCell ⟨g, 2, none⟩ x2).setCell ⟨g, 3, none⟩ x3).setCell ⟨g, 4, none⟩ x4) :=
 (((h.setCell hg _).setCell hg _).setCell hg _).setCell hg _
set_option maxHeartbeats 6400000 in
theorem put_zero (bb : Nat) (v : Cv) (s n : Nat) (A : Option Addr) (l : List Nd) (hn : l.length = n) (hs : s ≤ 255) (hA : A = none → n = 0) (k : Int) (w : World) (hb : SetB w bb v (.slice A n n) s) (hN : Ns w A n l) :
  Calls Try.prog 45 #[.pointer (some ⟨bb, 0, none⟩), .int .i64 k, .int .i64 0] w (RetPu bb v s A n l (l, (s : Int)) w) := by
 obtain ⟨-, -, -, -, -, a5⟩ := hb.at_
 have HB := Lib.hid hb
 clear hb hN hn hA
 go_enter Try.func45, Try.ntmps45
 go_wp2_with fail
 go_ret
 exact ⟨_, ret_int (by first | rfl | simp | omega), HB.out, .inr ⟨rfl, rfl⟩, Ky.refl _ _⟩
set_option maxHeartbeats 6400000 in
theorem put_rec (bb : Nat) (v : Cv) (s n : Nat) (A : Option Addr) (l : List Nd) (hl : looseB l = true) (hn : l.length = n) (hn9 : n ≤ 900000) (hs : s ≤ 255) (hA : A = none → n = 0) (hAb : ∀ a, A = some a → a.block ≠ bb) (ho : OffB bb v) (h1 : v.xs.length ≤ 60000) (h2 : v.ys.length ≤ 60000) :
  ∀ (m : Nat) (k : Int) (w : World), m ≤ 1329 → kidB l ((m : Int) + 1) k = true → SetB w bb v (.slice A n n) s → Ns w A n l → CvU w v →
   Calls Try.prog 45 #[.pointer (some ⟨bb, 0, none⟩), .int .i64 k, .int .i64 (m : Int)] w (RetPu bb v s A n l (pF m l k (val v.xs) (val v.ys) (s : Int)) w) := by
 intro m
 induction m with
 | zero =>
  intro k w hm hk hb hN hu
  exact put_zero bb v s n A l hn hs hA k w hb hN
 | succ m ih =>
  intro k w hm hk hb hN hu
  have hcap := hN.cap
  rw [hn] at hcap
  have hv1 := hu.1.cap
  have hv2 := hu.2.1.cap
  have i0 : ((m + 1 : Nat) : Int) = (m : Int) + 1 := by omega
  have hne : ((m + 1 : Nat) : Int) + 1 ≠ 1 := by omega
  have hup := kid_up hne hk
  obtain ⟨hxw, hxl⟩ := node_wf hl (by omega) (by omega) hk
  have hkd := fun i (hi : i < 4) => kid_kind hl (by omega) hk hi
  have hpf := pF_succ m l k (val v.xs) (val v.ys) (s : Int)
  have hx0 : k = 0 → nodeF m l k = ⟨(m : Int) + 1, 0, 0, 0, 0⟩ := fun e => by unfold nodeF; rw [if_pos e]
  have hxp : ∀ p : Nat, k = (p : Int) + 1 → nodeF m l k = at_ l p := fun p e => by unfold nodeF; rw [e, if_neg (by omega), show ((p : Int) + 1 - 1).toNat = p by omega]
  obtain ⟨u, hu4, hue⟩ : ∃ u, u < 4 ∧ qtr m (val v.xs) (val v.ys) = u := ⟨_, qtr_lt _ _ _, rfl⟩
  rw [hue] at hpf
  have hqc : quaC v m = u := hue
  obtain ⟨x, hx⟩ : ∃ x, x = nodeF m l k := ⟨_, rfl⟩
  rw [← hx] at hxw hxl hkd hpf hx0 hxp
  have hrl := pF_len l (val v.xs) (val v.ys) (s : Int) m (x.kid u)
  have hrn := pF_num (l := l) (X := val v.xs) (Y := val v.ys) (s := (s : Int)) (by omega) (by omega) m (x.kid u) (by omega)
  obtain ⟨r, hr⟩ : ∃ r, r = pF m l (x.kid u) (val v.xs) (val v.ys) (s : Int) := ⟨_, rfl⟩
  rw [← hr] at hpf hrl hrn
  rw [hn] at hrl
  obtain ⟨z, hz⟩ : ∃ z, z = chK x u r.2 := ⟨_, rfl⟩
  rw [← hz] at hpf
  have hzw : z.wf := by rw [hz]; exact chK_wf hxw u hrn
  have hbs := hb.lt
  obtain ⟨R, hR⟩ : ∃ R, R = RetPu bb v s A n l (pF (m + 1) l k (val v.xs) (val v.ys) (s : Int)) w := ⟨_, rfl⟩
  rw [← hR]
  have HR := Lib.hid hR
  have HPF := Lib.hid hpf
  have HRL := Lib.hid hrl
  have HZW := Lib.hid hzw
  have HZ := Lib.hid hz
  have HRR := Lib.hid hr
  have HXL := Lib.hid hxl
  have HXW := Lib.hid hxw
  have HX0 := Lib.hid hx0
  have HXP := Lib.hid hxp
  have HKD := Lib.hid hkd
  have HQC := Lib.hid hqc
  have HBB := Lib.hid hbs
  have HB := Lib.hid hb
  have HN := Lib.hid hN
  have HU := Lib.hid hu
  have HL := Lib.hid hn
  have HUP := Lib.hid hup
  have HIH := Lib.hid ih
  have HAB := Lib.hid hAb
  have HO := Lib.hid ho
  rw [i0]
  have i5 : (0 : Int) ≤ (u : Int) := by omega
  have i6 : (u : Int) < 4 := by omega
  have f0 : IntKind.i64.wrap ((m : Int) + 1 - 1) = (m : Int) := by rw [show (m : Int) + 1 - 1 = (m : Int) by omega]; exact IntWalk.i64_in _ (by omega)
  have f1 : IntKind.i64.wrap (m : Int) = (m : Int) := IntWalk.i64_in _ (by omega)
  have t0 : (((m : Int) + 1) == 0) = false := by rw [beq_eq_false_iff_ne]; omega
  obtain ⟨gx, hgx⟩ : ∃ gx, gx = w.heap.size := ⟨_, rfl⟩
  have HGX := Lib.hid hgx
  clear ih hup hqc hkd hxp hx0 hxw hxl hue hx hr hz hzw hrn hrl hpf hR hb hN hu hn hAb ho hk hne i0 hl
  go_enter Try.func45, Try.ntmps45
  go_upto_if 19 with (fail)
  rw [← hgx]
  clear hgx
  go_cut [19] from 20 to 29 (fun _ wx => NdBox wx gx x ∧ Below w.heap.size w wx)
  case first =>
   rcases HUP.out with hk0 | ⟨p, hkp, hpl, hplv⟩
   ·
    have hx0 := HX0.out hk0
    have t1 : (k != 0) = false := by rw [hk0]; rfl
    go_wp2_with fail
    go_meet
    refine ⟨?_, (Below.refl _ w).alloc (Nat.le_refl _) _⟩
    rw [hx0, HGX.out]
    exact NdBox.new w ⟨(m : Int) + 1, 0, 0, 0, 0⟩
   ·
    have hxp := HXP.out p hkp
    have t1 : (k != 0) = true := by rw [hkp]; exact bne_iff_ne.2 (by omega)
    obtain ⟨b, off, hAe, hbl, hcl⟩ := HN.out.at_ (by omega)
    have hc := hcl p hpl
    rw [← hxp] at hc
    have bl := (Below.refl w.heap.size w).alloc (Nat.le_refl _) (.cells #[.int .i64 ((m : Int) + 1), .int .i64 0, .int .i64 0, .int .i64 0, .int .i64 0] 66)
    obtain ⟨-, d1, d2, d3, d4⟩ := hc.below (bl.block b hbl)
    obtain ⟨-, -, -, -, a4, -⟩ := (HB.out.stay (bl.block bb HBB.out)).at_
    subst hAe
    have i1 : (0 : Int) ≤ (p : Int) := by omega
    have i2 : (p : Int) < (n : Int) := by have := HL.out; omega
    have i3 : IntKind.i64.wrap (k - 1) = (p : Int) := by rw [hkp, show (p : Int) + 1 - 1 = (p : Int) by omega]; exact IntWalk.i64_in _ (by have := HL.out; omega)
    have HKP := Lib.hid hkp
    have HXPP := Lib.hid hxp
    clear hkp hc bl hcl hxp hpl hplv
    have nw := NdBox.new w ⟨(m : Int) + 1, 0, 0, 0, 0⟩
    rw [← HGX.out] at nw
    obtain ⟨e0, e1, e2, e3, e4⟩ := nw.cells
    have z1 := nw.free 1
    have z2 := nw.free 2
    have z3 := nw.free 3
    have z4 := nw.free 4
    dsimp only at e0 e1 e2 e3 e4
    go_wp2_with fail
    go_meet
    have c1 := nw.chK (k := 0) (by omega) (o := 1) rfl x.a
    have c2 := c1.chK (k := 1) (by omega) (o := 2) rfl x.b
    have c3 := c2.chK (k := 2) (by omega) (o := 3) rfl x.c
    have c4 := c3.chK (k := 3) (by omega) (o := 4) rfl x.d
    have hxx : chK (chK (chK (chK ⟨(m : Int) + 1, 0, 0, 0, 0⟩ 0 x.a) 1 x.b) 2 x.c) 3 x.d = x := by
     rw [show x = ⟨x.lv, x.a, x.b, x.c, x.d⟩ from rfl, HXL.out]
     rfl
    rw [hxx] at c4
    exact ⟨c4, put_below4 ((Below.refl w.heap.size w).alloc (Nat.le_refl _) _) (by rw [HGX.out]; exact Nat.le_refl _)⟩
  case rest =>
   obtain ⟨hbx, hbw⟩ := hcut
   have BX := Lib.hid hbx
   have BW := Lib.hid hbw
   have B1 := Lib.hid (HB.out.stay (hbw.block bb HBB.out))
   obtain ⟨a0, a1, a2, a3, a4, a5⟩ := B1.out.at_
   obtain ⟨x0, x1, x2, x3, x4⟩ := hbx.cells
   have HU1 := Lib.hid (HU.out.below hbw)
   have HN1 := Lib.hid (HN.out.below hbw)
   clear hbx hbw
   have HNU := Lib.hid (HKD.out u hu4)
   go_wp2_with (first
    | (go_at_call 51; go_loud (refine (quarter_lk v m _ HU1.out h1 h2 (by omega)).mono ?_; rintro e w2 ⟨rfl, b2⟩; rw [HQC.out]; have B2 := Lib.hid (B1.out.stay (b2.block bb B1.out.lt)); have X2 := Lib.hid (BX.out.stay (b2.block gx BX.out.lt)); have W2 := Lib.hid (BW.out.trans (b2.mono BW.out.size)); have U2 := Lib.hid (HU1.out.below b2); have N2 := Lib.hid (HN1.out.below b2); have kc := X2.out.kidAw hu4; clear b2; obtain ⟨E, hE⟩ : ∃ E, E = w2.heap.size := ⟨_, rfl⟩; have HE := Lib.hid hE; clear hE))
    | (go_at_call 45; go_loud (refine (HIH.out (x.kid u) _ (by omega) HNU.out B2.out N2.out U2.out).mono ?_; rw [← HRR.out]; rintro e w3 ⟨nv, rfl, b3, c3, k3⟩; have B3 := Lib.hid b3; have C3 := Lib.hid c3; have S3 := Lib.hid k3.size; have K3 := Lib.hid ((Ky.refl (fun k => k = bb) w).below W2.out |>.trans k3 (fun i _ h => h)); have X3 := Lib.hid (X2.out.stay (k3.block gx X2.out.lt (by have := HBB.out; have := HGX.out; omega))); have kc := X3.out.kidAw hu4; have kf := X3.out.free (1 + u); clear b3 c3 k3)))
   clear a0 a1 a2 a3 a4 a5 x0 x1 x2 x3 x4 kc kf
   refine wp_region_noPanic ?_
   refine wp_region_held (S := fun w' => w'.cell? ⟨gx, 0, none⟩ = some (.int .i64 z.lv) ∧ w'.cell? ⟨gx, 1, none⟩ = some (.int .i64 z.a) ∧ w'.cell? ⟨gx, 2, none⟩ = some (.int .i64 z.b) ∧ w'.cell? ⟨gx, 3, none⟩ = some (.int .i64 z.c) ∧ w'.cell? ⟨gx, 4, none⟩ = some (.int .i64 z.d)) (by kernel_rfl) ?_
   obtain ⟨W0, hW0⟩ : ∃ W0 : World, W0 = (w3.setCell ⟨gx, 1 + u, none⟩ (.int .i64 r.2)).drew := ⟨_, rfl⟩
   have HEG := Lib.hid (show gx < E by rw [HE.out]; exact X2.out.lt)
   have hgb : bb ≠ gx := by have := HBB.out; have := HGX.out; omega
   have k0 := (Ky.refl (fun k => k = gx) w3).set ⟨gx, 1 + u, none⟩ (fun _ => rfl) (.int .i64 r.2)
   have X0 := Lib.hid (show NdBox W0 gx z by rw [hW0, HZ.out]; exact X3.out.chK hu4 rfl r.2)
   have B0 := Lib.hid (show SetB W0 bb v nv s by rw [hW0]; exact B3.out.stay (k0.block bb B3.out.lt hgb))
   have L0 := Lib.hid (show Ky (fun k => k = bb) w W0 by rw [hW0]; exact (K3.out.trans k0 (fun i hi e => absurd hi (by rw [e, HGX.out]; exact Nat.lt_irrefl _))).below (below_drewN (Below.refl _ _) 1))
   have C0 := Lib.hid (show CutN W0 E nv r.1 by
    rcases C3.out with h | ⟨h, h9⟩
    ·
     rw [← HE.out] at h
     rw [hW0]
     exact .inl ((h.gbr (gb_setCell _ _ _) (own_dec fun k hk e => by have h4 := (h.lt k hk).1; have h5 := Option.some.inj e; dsimp only at h5; have := HEG.out; omega)).stays (below_drewN (Below.refl _ _) 1))
    ·
     exact .inr ⟨A, n, by rw [h, h9, HL.out], by rw [h9]; exact L0.out.ns HN.out HAB.out, by rw [h9, HL.out]; exact hA⟩)
   have HE0 := Lib.hid (show E ≤ W0.heap.size by rw [hW0, HE.out]; simpa [World.setCell] using S3.out)
   change wpAnyH _ _ _ _ _ _ _ _ (w3.setCell ⟨gx, 1 + u, none⟩ (.int .i64 r.2)).drew
   rw [← hW0]
   clear hW0 k0
   refine wpAnyH_take (i := 0) (v := ?_) rfl (by kernel_rfl) (by kernel_rfl) (by kernel_rfl) (fun _ _ _ h => h) (Or.inl ⟨by rfl, ?_⟩) X0.out.cells ?_
   rotate_left
   ·
    rintro w' ⟨s1, s2, s3, s4, s5⟩
    go_simp
    first | done | with_reducible rfl | rfl
   simp only [Act.put, LA]
   refine wpAnyH_take (i := 1) (v := ?_) rfl (by kernel_rfl) (by kernel_rfl) (by kernel_rfl) (fun _ _ _ h => h) (Or.inl ⟨by rfl, ?_⟩) X0.out.cells ?_
   rotate_left
   ·
    rintro w' ⟨s1, s2, s3, s4, s5⟩
    go_simp
    first | done | with_reducible rfl | rfl
   simp only [Act.put, LA]
   refine wpAnyH_take (i := 2) (v := ?_) rfl (by kernel_rfl) (by kernel_rfl) (by kernel_rfl) (fun _ _ _ h => h) (Or.inl ⟨by rfl, ?_⟩) X0.out.cells ?_
   rotate_left
   ·
    rintro w' ⟨s1, s2, s3, s4, s5⟩
    go_simp
    first | done | with_reducible rfl | rfl
   simp only [Act.put, LA]
   refine wpAnyH_take (i := 3) (v := ?_) rfl (by kernel_rfl) (by kernel_rfl) (by kernel_rfl) (fun _ _ _ h => h) (Or.inl ⟨by rfl, ?_⟩) X0.out.cells ?_
   rotate_left
   ·
    rintro w' ⟨s1, s2, s3, s4, s5⟩
    go_simp
    first | done | with_reducible rfl | rfl
   simp only [Act.put, LA]
   refine wpAnyH_take (i := 5) (v := ?_) rfl (by kernel_rfl) (by kernel_rfl) (by kernel_rfl) (fun _ _ _ h => h) (Or.inl ⟨by rfl, ?_⟩) X0.out.cells ?_
   rotate_left
   ·
    rintro w' ⟨s1, s2, s3, s4, s5⟩
    go_simp
    first | done | with_reducible rfl | rfl
   simp only [Act.put, LA]
   refine wpAnyH_ready (rs := [4, 6]) (by kernel_rfl) (by simp) (AllReadyH.cons rfl (fun K hK => ?_) (AllReadyH.cons rfl (fun K hK => ?_) AllReadyH.nil))
   ·
    have q0 := B0.out.at_.2.2.2.2.1
    go_simp
    refine hK.out _ _ X0.out.cells (fun _ => ?_)
    clear hK K q0
    refine wpAnyH_ready (rs := [6]) (by kernel_rfl) (by simp) (AllReadyH.cons rfl (fun K hK => ?_) AllReadyH.nil)
    go_simp
    obtain ⟨g1, hg1⟩ : ∃ g, g = W0.heap.size := ⟨_, rfl⟩
    obtain ⟨W1, hW1⟩ : ∃ Z : World, Z = W0.alloc (.cells #[.int .i64 z.lv, .int .i64 z.a, .int .i64 z.b, .int .i64 z.c, .int .i64 z.d] 66) := ⟨_, rfl⟩
    have hbl := (Below.refl W0.heap.size W0).alloc (Nat.le_refl _) (.cells #[.int .i64 z.lv, .int .i64 z.a, .int .i64 z.b, .int .i64 z.c, .int .i64 z.d] 66)
    rw [← hW1] at hbl
    have B1 := Lib.hid (B0.out.stay (hbl.block bb B0.out.lt))
    have X1 := Lib.hid (X0.out.stay (hbl.block gx X0.out.lt))
    have L1 := Lib.hid (L0.out.below hbl)
    have HE1 := Lib.hid (Nat.le_trans HE0.out hbl.size)
    have C1 := Lib.hid (C0.out.keep hbl)
    have NS := Lib.hid (show Ns W1 (some ⟨g1, 0, none⟩) 1 [z] by rw [hW1]; exact ns_lit1 W0 g1 z HZW.out hg1.symm)
    rw [← hg1, ← hW1]
    clear hg1 hW1 hbl
    refine hK.out _ _ X1.out.cells (fun _ => ?_)
    clear hK K
    refine wpAnyH_ready (rs := [7]) (by kernel_rfl) (by simp) (AllReadyH.cons rfl (fun K hK => ?_) AllReadyH.nil)
    try rw [if_pos (by rfl)]
    refine oper_append_cutn (.tmp 51) (.tmp 53) rfl E nv r.1 z ⟨g1, 0, none⟩ 1 rfl rfl C1.out NS.out (by have := HRL.out; omega) HE1.out ?_
    intro v2 W6 rw_ ho hgw hrw
    simp only [Act.put, LA]
    have nb : ∀ k, k < w.heap.size → (some k : Option Nat) ≠ rw_ := fun k hk e => by have := hrw k e.symm; have := HEG.out; have := HGX.out; omega
    have X6 := Lib.hid (X1.out.stay (hgw.block gx X1.out.lt (fun e => absurd (hrw gx e.symm) (by have := HEG.out; omega))))
    have B6 := Lib.hid (B1.out.stay (hgw.block bb B1.out.lt (nb bb HBB.out)))
    have L6 := Lib.hid (L1.out.gb hgw (fun i hi e => absurd e (fun e => nb i hi e.symm)))
    have O6 := Lib.hid ho
    obtain ⟨A2, c2, hv2, hN2, -, -⟩ := ho.shape
    rw [show (r.1 ++ [z]).length = r.1.length + 1 by simp] at hv2
    subst hv2
    have NG := Lib.hid (show ∀ k, (Value.slice A2 (r.1.length + 1) c2).ownBlock = some k → k ≠ bb from fun k hk e => by have := (O6.out.lt k hk).1; have := HBB.out; have := HEG.out; have := HGX.out; omega)
    refine hK.out _ _ X6.out.cells (fun _ => ?_)
    clear hK K ho hgw hN2
    refine wpAnyH_take (i := 8) (v := ?_) rfl (by kernel_rfl) (by kernel_rfl) (by kernel_rfl) (fun _ _ _ h => h) (Or.inl ⟨by rfl, ?_⟩) X6.out.cells ?_
    rotate_left
    ·
     rintro w' ⟨s1, s2, s3, s4, s5⟩
     go_simp
     first | done | with_reducible rfl | rfl
    simp only [Act.put, LA]
    refine wpAnyH_take (i := 9) (v := ?_) rfl (by kernel_rfl) (by kernel_rfl) (by kernel_rfl) (fun _ _ _ h => h) (Or.inl ⟨by rfl, ?_⟩) X6.out.cells ?_
    rotate_left
    ·
     rintro w' ⟨s1, s2, s3, s4, s5⟩
     go_simp
     first | done | with_reducible rfl | rfl
    simp only [Act.put, LA]
    refine wpAnyH_ready (rs := [10]) (by kernel_rfl) (by simp) (AllReadyH.cons rfl (fun K hK => ?_) AllReadyH.nil)
    obtain ⟨-, -, -, -, e0, -⟩ := B6.out.at_
    have e1 := B6.out.free 4
    go_simp
    have hset := B6.out.put (.slice A2 (r.1.length + 1) c2)
    obtain ⟨W7, hW7⟩ : ∃ Z : World, Z = W6.setCell ⟨bb, 4, none⟩ (.slice A2 (r.1.length + 1) c2) := ⟨_, rfl⟩
    have hgs := gb_setCell W6 ⟨bb, 4, none⟩ (.slice A2 (r.1.length + 1) c2)
    rw [← hW7] at hset hgs ⊢
    have B7 := Lib.hid hset
    have O7 := Lib.hid (O6.out.gbr hgs (own_dec (fun k hk e => NG.out k hk (Option.some.inj e).symm)))
    have L7 := Lib.hid (L6.out.gb hgs (fun i hi e => (Option.some.inj e).symm))
    have X7 := Lib.hid (X6.out.stay (hgs.block gx X6.out.lt (fun e => by have h3 := Option.some.inj e; dsimp only at h3; have := HGX.out; have := HBB.out; omega)))
    refine hK.out _ _ X7.out.cells (fun _ => ?_)
    clear hK K e0 e1 hset hgs hW7
    refine wpAnyH_done (by kernel_rfl) ?_ _
    refine NoPanic.normal ?_
    obtain ⟨-, -, -, -, b4, -⟩ := B7.out.at_
    have hrl9 := HRL.out
    go_wp2_with fail
    rw [HR.out, HPF.out]
    refine ⟨_, ?_, B7.out, .inl (O7.out.mono (by have := HEG.out; have := HGX.out; omega)), L7.out⟩
    show Ending.returned (Value.int .i64 ((n : Int) + (m : Int) + 1)) = .returned (.int .i64 ((r.1.length + 1 : Nat) : Int))
    exact ret_int (by omega)
   ·
    go_simp
    obtain ⟨g1, hg1⟩ : ∃ g, g = W0.heap.size := ⟨_, rfl⟩
    obtain ⟨W1, hW1⟩ : ∃ Z : World, Z = W0.alloc (.cells #[.int .i64 z.lv, .int .i64 z.a, .int .i64 z.b, .int .i64 z.c, .int .i64 z.d] 66) := ⟨_, rfl⟩
    have hbl := (Below.refl W0.heap.size W0).alloc (Nat.le_refl _) (.cells #[.int .i64 z.lv, .int .i64 z.a, .int .i64 z.b, .int .i64 z.c, .int .i64 z.d] 66)
    rw [← hW1] at hbl
    have B1 := Lib.hid (B0.out.stay (hbl.block bb B0.out.lt))
    have X1 := Lib.hid (X0.out.stay (hbl.block gx X0.out.lt))
    have L1 := Lib.hid (L0.out.below hbl)
    have HE1 := Lib.hid (Nat.le_trans HE0.out hbl.size)
    have C1 := Lib.hid (C0.out.keep hbl)
    have NS := Lib.hid (show Ns W1 (some ⟨g1, 0, none⟩) 1 [z] by rw [hW1]; exact ns_lit1 W0 g1 z HZW.out hg1.symm)
    rw [← hg1, ← hW1]
    clear hg1 hW1 hbl
    refine hK.out _ _ X1.out.cells (fun _ => ?_)
    clear hK K
    refine wpAnyH_ready (rs := [4]) (by kernel_rfl) (by simp) (AllReadyH.cons rfl (fun K hK => ?_) AllReadyH.nil)
    have q0 := B1.out.at_.2.2.2.2.1
    go_simp
    refine hK.out _ _ X1.out.cells (fun _ => ?_)
    clear hK K q0
    refine wpAnyH_ready (rs := [7]) (by kernel_rfl) (by simp) (AllReadyH.cons rfl (fun K hK => ?_) AllReadyH.nil)
    try rw [if_pos (by rfl)]
    refine oper_append_cutn (.tmp 51) (.tmp 53) rfl E nv r.1 z ⟨g1, 0, none⟩ 1 rfl rfl C1.out NS.out (by have := HRL.out; omega) HE1.out ?_
    intro v2 W6 rw_ ho hgw hrw
    simp only [Act.put, LA]
    have nb : ∀ k, k < w.heap.size → (some k : Option Nat) ≠ rw_ := fun k hk e => by have := hrw k e.symm; have := HEG.out; have := HGX.out; omega
    have X6 := Lib.hid (X1.out.stay (hgw.block gx X1.out.lt (fun e => absurd (hrw gx e.symm) (by have := HEG.out; omega))))
    have B6 := Lib.hid (B1.out.stay (hgw.block bb B1.out.lt (nb bb HBB.out)))
    have L6 := Lib.hid (L1.out.gb hgw (fun i hi e => absurd e (fun e => nb i hi e.symm)))
    have O6 := Lib.hid ho
    obtain ⟨A2, c2, hv2, hN2, -, -⟩ := ho.shape
    rw [show (r.1 ++ [z]).length = r.1.length + 1 by simp] at hv2
    subst hv2
    have NG := Lib.hid (show ∀ k, (Value.slice A2 (r.1.length + 1) c2).ownBlock = some k → k ≠ bb from fun k hk e => by have := (O6.out.lt k hk).1; have := HBB.out; have := HEG.out; have := HGX.out; omega)
    refine hK.out _ _ X6.out.cells (fun _ => ?_)
    clear hK K ho hgw hN2
    refine wpAnyH_take (i := 8) (v := ?_) rfl (by kernel_rfl) (by kernel_rfl) (by kernel_rfl) (fun _ _ _ h => h) (Or.inl ⟨by rfl, ?_⟩) X6.out.cells ?_
    rotate_left
    ·
     rintro w' ⟨s1, s2, s3, s4, s5⟩
     go_simp
     first | done | with_reducible rfl | rfl
    simp only [Act.put, LA]
    refine wpAnyH_take (i := 9) (v := ?_) rfl (by kernel_rfl) (by kernel_rfl) (by kernel_rfl) (fun _ _ _ h => h) (Or.inl ⟨by rfl, ?_⟩) X6.out.cells ?_
    rotate_left
    ·
     rintro w' ⟨s1, s2, s3, s4, s5⟩
     go_simp
     first | done | with_reducible rfl | rfl
    simp only [Act.put, LA]
    refine wpAnyH_ready (rs := [10]) (by kernel_rfl) (by simp) (AllReadyH.cons rfl (fun K hK => ?_) AllReadyH.nil)
    obtain ⟨-, -, -, -, e0, -⟩ := B6.out.at_
    have e1 := B6.out.free 4
    go_simp
    have hset := B6.out.put (.slice A2 (r.1.length + 1) c2)
    obtain ⟨W7, hW7⟩ : ∃ Z : World, Z = W6.setCell ⟨bb, 4, none⟩ (.slice A2 (r.1.length + 1) c2) := ⟨_, rfl⟩
    have hgs := gb_setCell W6 ⟨bb, 4, none⟩ (.slice A2 (r.1.length + 1) c2)
    rw [← hW7] at hset hgs ⊢
    have B7 := Lib.hid hset
    have O7 := Lib.hid (O6.out.gbr hgs (own_dec (fun k hk e => NG.out k hk (Option.some.inj e).symm)))
    have L7 := Lib.hid (L6.out.gb hgs (fun i hi e => (Option.some.inj e).symm))
    have X7 := Lib.hid (X6.out.stay (hgs.block gx X6.out.lt (fun e => by have h3 := Option.some.inj e; dsimp only at h3; have := HGX.out; have := HBB.out; omega)))
    refine hK.out _ _ X7.out.cells (fun _ => ?_)
    clear hK K e0 e1 hset hgs hW7
    refine wpAnyH_done (by kernel_rfl) ?_ _
    refine NoPanic.normal ?_
    obtain ⟨-, -, -, -, b4, -⟩ := B7.out.at_
    have hrl9 := HRL.out
    go_wp2_with fail
    rw [HR.out, HPF.out]
    refine ⟨_, ?_, B7.out, .inl (O7.out.mono (by have := HEG.out; have := HGX.out; omega)), L7.out⟩
    show Ending.returned (Value.int .i64 ((n : Int) + (m : Int) + 1)) = .returned (.int .i64 ((r.1.length + 1 : Nat) : Int))
    exact ret_int (by omega)
end Go.Proofs.Ytlnmcilcifbcnaa

namespace Go.Proofs.Ytlnmcilcifbcnaa
open Go.RowKit Num Nds
def inR (X : Int) : Prop := -p2 1328 ≤ X ∧ X < p2 1328
instance (X : Int) : Decidable (inR X) := inferInstanceAs (Decidable (_ ∧ _))
def SetE (q : List Nd) (X Y s er : Int) (q' : List Nd) : Prop := if s ≠ 0 ∧ ¬ (inR X ∧ inR Y) then er = 4 ∧ q' = [] else er = 0 ∧ SetOf q X Y s q'
theorem SetE.one {q a b : List Nd} {X Y s er fr : Int} (h : SetE q X Y s er a) (k : SetE q X Y s fr b) : a = b ∧ er = fr := by
 unfold SetE at h k
 split at h
 ·
  rename_i h0
  rw [if_pos h0] at k
  exact ⟨h.2.trans k.2.symm, h.1.trans k.1.symm⟩
 ·
  rename_i h0
  rw [if_neg h0] at k
  exact ⟨h.2.one k.2, h.1.trans k.1.symm⟩
def RetLk (q : List Nd) (X Y s : Int) (w : World) (e : Ending) (w' : World) : Prop :=
 ∃ A c q' er, e = .returned (.tuple #[.agg #[.slice A q'.length c], .int .i64 er]) ∧ Ns w' A c q' ∧ (A = none → c = 0) ∧ Below w.heap.size w w' ∧ q'.length ≤ q.length + 12 * 1329 ∧ SetE q X Y s er q'
theorem set_same {q : List Nd} (hq : QS q) {X Y s : Int} (h : s = getQ q X Y) : SetOf q X Y s q := ⟨hq, fun x y => by
 split
 ·
  rename_i h2
  rw [h2.1, h2.2, h]
  rfl
 ·
  rfl⟩
set_option maxHeartbeats 1600000 in
theorem clip_any (A : Option Addr) (n c : Nat) (w : World) (hc : n ≤ c ∧ c ≤ 9223372036854775807) :
  Calls Try.prog 44 #[.slice A n c] w fun e w' => e = .returned (.slice A n n) ∧ w' = w := by
 obtain ⟨h1, h2⟩ := hc
 have i1 : (n : Int) ≤ (c : Int) := by omega
 have i2 : (0 : Int) ≤ (n : Int) := by omega
 cases A with
 | none =>
  go_enter Try.func44, Try.ntmps44
  go_wp2_with fail
  go_ret
  exact ⟨rfl, rfl⟩
 | some a =>
  go_enter Try.func44, Try.ntmps44
  go_wp2_with fail
  go_ret
  exact ⟨rfl, rfl⟩
structure StW (w W : World) (A : Option Addr) (c n : Nat) (q : List Nd) (s : Bool) (A1 : Option Addr) (d1 : Nat) (xs : List Nat) (t : Bool) (A2 : Option Addr) (d2 : Nat) (ys : List Nat) : Prop where
 b : Below w.heap.size w W
 bq : W.heap[w.heap.size]? = some (.cells #[.slice A n c] 31)
 bx : W.heap[w.heap.size + 1]? = some (.cells #[.bool s, .slice A1 xs.length d1] 25)
 by_ : W.heap[w.heap.size + 1 + 1]? = some (.cells #[.bool t, .slice A2 ys.length d2] 25)
 br : W.heap[w.heap.size + 1 + 1 + 1]? = some (.cells #[.slice none 0 0] 31)
 ns : Ns W A c q
 ux : Us W A1 d1 xs
 uy : Us W A2 d2 ys
theorem heap_lt {W : World} {g : Nat} {o : Obj} (h : W.heap[g]? = some o) : g < W.heap.size := (Array.getElem?_eq_some_iff.1 h).1
theorem StW.next {w W V : World} {A : Option Addr} {c n : Nat} {q : List Nd} {s : Bool} {A1 : Option Addr} {d1 : Nat} {xs : List Nat} {t : Bool} {A2 : Option Addr} {d2 : Nat} {ys : List Nat} (h : StW w W A c n q s A1 d1 xs t A2 d2 ys) (k : Below W.heap.size W V) : StW w V A c n q s A1 d1 xs t A2 d2 ys :=
 ⟨h.b.trans (k.mono h.b.size), (k.block _ (heap_lt h.bq)).trans h.bq, (k.block _ (heap_lt h.bx)).trans h.bx, (k.block _ (heap_lt h.by_)).trans h.by_, (k.block _ (heap_lt h.br)).trans h.br, h.ns.below k, h.ux.below k, h.uy.below k⟩
theorem StW.at_ {w W : World} {A : Option Addr} {c n : Nat} {q : List Nd} {s : Bool} {A1 : Option Addr} {d1 : Nat} {xs : List Nat} {t : Bool} {A2 : Option Addr} {d2 : Nat} {ys : List Nat} (h : StW w W A c n q s A1 d1 xs t A2 d2 ys) :
  W.cell? ⟨w.heap.size, 0, none⟩ = some (.slice A n c) ∧ W.cell? ⟨w.heap.size + 1, 0, none⟩ = some (.bool s) ∧ W.cell? ⟨w.heap.size + 1, 1, none⟩ = some (.slice A1 xs.length d1) ∧ W.cell? ⟨w.heap.size + 1 + 1, 0, none⟩ = some (.bool t) ∧ W.cell? ⟨w.heap.size + 1 + 1, 1, none⟩ = some (.slice A2 ys.length d2) ∧ W.cell? ⟨w.heap.size + 1 + 1 + 1, 0, none⟩ = some (.slice none 0 0) ∧ W.frozen? ⟨w.heap.size + 1 + 1 + 1, 0, none⟩ = false :=
 ⟨one_cell h.bq, (big_cells h.bx).1, (big_cells h.bx).2, (big_cells h.by_).1, (big_cells h.by_).2, one_cell h.br, one_free h.br⟩
theorem StW.start (w : World) (A : Option Addr) (c n : Nat) (q : List Nd) (s : Bool) (A1 : Option Addr) (d1 : Nat) (xs : List Nat) (t : Bool) (A2 : Option Addr) (d2 : Nat) (ys : List Nat) (h : Ns w A c q) (hx : Us w A1 d1 xs) (hy : Us w A2 d2 ys) :
  StW w ((((w.alloc (.cells #[.slice A n c] 31)).alloc (.cells #[.bool s, .slice A1 xs.length d1] 25)).alloc (.cells #[.bool t, .slice A2 ys.length d2] 25)).alloc (.cells #[.slice none 0 0] 31)) A c n q s A1 d1 xs t A2 d2 ys := by
 have hb : Below w.heap.size w ((((w.alloc (.cells #[.slice A n c] 31)).alloc (.cells #[.bool s, .slice A1 xs.length d1] 25)).alloc (.cells #[.bool t, .slice A2 ys.length d2] 25)).alloc (.cells #[.slice none 0 0] 31)) := ((((Below.refl _ w).alloc (Nat.le_refl _) _).alloc (by simp) _).alloc (by simp; omega) _).alloc (by simp; omega) _
 refine ⟨hb, ?_, ?_, ?_, ?_, h.below hb, hx.below hb, hy.below hb⟩
 ·
  exact (Below.heap_alloc _ _ _ (by simp only [World.size_alloc]; omega)).trans ((Below.heap_alloc _ _ _ (by simp only [World.size_alloc]; omega)).trans ((Below.heap_alloc _ _ _ (by simp only [World.size_alloc]; omega)).trans (heap_alloc_new w _)))
 ·
  refine (Below.heap_alloc _ _ _ (by simp only [World.size_alloc]; omega)).trans ((Below.heap_alloc _ _ _ (by simp only [World.size_alloc]; omega)).trans ?_)
  have := heap_alloc_new (w.alloc (.cells #[.slice A n c] 31)) (.cells #[.bool s, .slice A1 xs.length d1] 25)
  rwa [World.size_alloc] at this
 ·
  refine (Below.heap_alloc _ _ _ (by simp only [World.size_alloc]; omega)).trans ?_
  have := heap_alloc_new ((w.alloc (.cells #[.slice A n c] 31)).alloc (.cells #[.bool s, .slice A1 xs.length d1] 25)) (.cells #[.bool t, .slice A2 ys.length d2] 25)
  rwa [World.size_alloc, World.size_alloc] at this
 ·
  have := heap_alloc_new (((w.alloc (.cells #[.slice A n c] 31)).alloc (.cells #[.bool s, .slice A1 xs.length d1] 25)).alloc (.cells #[.bool t, .slice A2 ys.length d2] 25)) (.cells #[.slice none 0 0] 31)
  rwa [World.size_alloc, World.size_alloc, World.size_alloc] at this
theorem ns_boxed {w : World} {A A0 : Option Addr} {c n0 c0 g : Nat} {l : List Nd} {u : Value} {t : TypeId} (h : Ns w A c l) (hb : w.heap[g]? = some (.cells #[.slice A0 n0 c0] t)) : Ns (w.setCell ⟨g, 0, none⟩ u) A c l :=
 ⟨h.1, h.2.1, h.2.2.1, fun h0 => by
  obtain ⟨b, off, e, hlt, hc⟩ := h.2.2.2 h0
  have hne : b ≠ g := fun e2 => by
   subst e2
   have h1 := (hc 0 h0).1
   rw [cell_of_row w b _ _ _ (0, 0) hb] at h1
   rcases off with _ | off
   ·
    simp at h1
   ·
    simp at h1
  exact ⟨b, off, e, by simpa [World.setCell] using hlt, fun i hi => (hc i hi).below (Below.heap_setCell w ⟨g, 0, none⟩ u b hne)⟩⟩
theorem StW.done {w W : World} {A : Option Addr} {c n : Nat} {q : List Nd} {s : Bool} {A1 : Option Addr} {d1 : Nat} {xs : List Nat} {t : Bool} {A2 : Option Addr} {d2 : Nat} {ys : List Nat} (h : StW w W A c n q s A1 d1 xs t A2 d2 ys) (u : Value) : Below w.heap.size w (W.setCell ⟨w.heap.size + 1 + 1 + 1, 0, none⟩ u) := h.b.setCell (by show w.heap.size ≤ w.heap.size + 1 + 1 + 1; omega) u
theorem put_row {bb n : Nat} {A : Option Addr} {l : List Nd} {r : List Nd × Int} {w w' : World} {nv : Value} (h : OwnN w' w.heap.size nv r.1 ∨ (nv = .slice A n n ∧ r.1 = l)) (k : Ky (fun k => k = bb) w w') (hN : Ns w A n l) (hn : l.length = n) (hA : A = none → n = 0) (hb : ∀ a, A = some a → a.block ≠ bb) :
  ∃ A4 c4, nv = .slice A4 r.1.length c4 ∧ Ns w' A4 c4 r.1 ∧ (A4 = none → c4 = 0) := by
 rcases h with h | ⟨h, h9⟩
 ·
  obtain ⟨A4, c4, h1, h2, h3, -⟩ := h.shape
  exact ⟨A4, c4, h1, h2, h3⟩
 ·
  exact ⟨A, n, by rw [h, h9, hn], by rw [h9]; exact k.ns hN hb, hA⟩
theorem setF_grow (lv : Nat) (q : List Nd) (X Y s : Int) : setF lv q X Y s = putF lv (growQ lv q) ((growQ lv q).length : Nat) (X + p2 (lv - 1)) (Y + p2 (lv - 1)) s := by
 unfold setF growQ
 split
 ·
  rfl
 ·
  rfl
theorem pF_put {lv : Nat} {l : List Nd} {k : Int} {X Y : Nat} {s X' Y' : Int} (h1 : (X : Int) = X') (h2 : (Y : Int) = Y') (h3 : X' < p2 lv) (h4 : Y' < p2 lv) : pF lv l k X Y s = putF lv l k X' Y' s := by
 subst h1
 subst h2
 have e := p2_nat lv
 unfold pF
 rw [Nat.mod_eq_of_lt (by omega), Nat.mod_eq_of_lt (by omega)]
theorem grow_ok {q : List Nd} (hq : QS q) {lv : Nat} (h1 : 1 ≤ lv) (h9 : lv ≤ 1329) (hlv : levelZ q ≤ (lv : Int)) : looseB (growQ lv q) = true ∧ kidB (growQ lv q) ((lv : Int) + 1) ((growQ lv q).length : Nat) = true ∧ (growQ lv q).length ≤ q.length + 6645 := by
 have hne : (lv : Int) + 1 ≠ 1 := by omega
 by_cases h0 : q.length = 0
 ·
  have e : growQ lv q = [] := by unfold growQ; rw [if_pos h0]
  rw [e]
  exact ⟨rfl, kidB_zero _ _ hne, by simp⟩
 ·
  have hv := fit_lv (loose_fit hq.1 (i := q.length - 1) (by omega))
  have hz : levelZ q = (at_ q (q.length - 1)).lv := by unfold levelZ; rw [if_neg (fun e => h0 (by rw [e]; rfl))]
  obtain ⟨m, hm⟩ : ∃ m : Nat, (at_ q (q.length - 1)).lv = (m : Int) + 1 := ⟨((at_ q (q.length - 1)).lv - 1).toNat, by omega⟩
  rw [hz, hm] at hlv
  obtain ⟨d, hd⟩ : ∃ d, d = lv - ((m : Int) + 1).toNat := ⟨_, rfl⟩
  have e : growQ lv q = growF d q := by unfold growQ; rw [if_neg h0, hm, hd]
  obtain ⟨g1, g2⟩ := grow_spec d hq.1 (by omega) hm (by omega)
  rw [e]
  refine ⟨g1.loose, ?_, by omega⟩
  obtain ⟨p, hp⟩ : ∃ p, (growF d q).length = p + 1 := ⟨(growF d q).length - 1, by have := g1.pos; omega⟩
  have hlv2 := g1.lv
  rw [hp, Nat.add_sub_cancel] at hlv2
  rw [hp, show (((p + 1 : Nat)) : Int) = (p : Int) + 1 by omega, kidB_in _ _ _ hne (by omega)]
  exact decide_eq_true (by rw [hlv2]; omega)
theorem grow_at (A : Option Addr) (c n m : Nat) (q G : List Nd) (gl : Nat) (hG : G = growQ (m + 1) q) (hgl : gl = G.length) (w : World) (h : Ns w A c q) (hn : q.length = n) (hn9 : n ≤ 800000) (hl : looseB q = true) (hlv : m ≤ 1328) (hA : A = none → c = 0) :
  Calls Try.prog 42 #[.agg #[.slice A n c], .int .i64 ((m : Int) + 1)] w fun e w' => ∃ A5 c5, e = .returned (.tuple #[.slice A5 gl c5, .int .i64 (gl : Int)]) ∧ Ns w' A5 gl G ∧ (A5 = none → gl = 0) ∧ (∀ a, A5 = some a → a.block < w'.heap.size) ∧ gl ≤ c5 ∧ c5 ≤ 9223372036854775807 ∧ Below w.heap.size w w' := by
 have h1 := grow_lk A c n (m + 1) q w h hn hn9 hl (by omega) hA
 rw [← hG, ← hgl, show ((m + 1 : Nat) : Int) = (m : Int) + 1 by omega] at h1
 refine h1.mono ?_
 rintro e w' ⟨v, rfl, o, b⟩
 obtain ⟨A5, c5, hv, hn5, hA5, -⟩ := o.shape
 rw [← hgl] at hv
 have hcap := hn5.cap
 rw [← hgl] at hcap
 refine ⟨A5, c5, by rw [hv], ⟨hn5.1, by omega, Nat.le_trans (by omega) hn5.2.2.1, hn5.2.2.2⟩, fun e => by have := hA5 e; omega, fun a ea => (o.lt a.block (by rw [hv, ea]; rfl)).2, hcap.1, hcap.2, b⟩
theorem put_at (bb : Nat) (v : Cv) (k gl m : Nat) (A : Option Addr) (q G : List Nd) (X Y : Int) (r : List Nd × Int) (hG : G = growQ (m + 1) q) (hgl : gl = G.length) (hr : r = setF (m + 1) q X Y (k : Int)) (hq : QS q) (hq9 : q.length ≤ 800000) (hlv : levelZ q ≤ (m : Int) + 1) (hm : m ≤ 1328) (hk : k ≤ 255)
  (hX : -p2 m ≤ X ∧ X < p2 m) (hY : -p2 m ≤ Y ∧ Y < p2 m) (kx : CanonI v.sx v.xs) (ky : CanonI v.sy v.ys) (ex : ival v.sx v.xs = X + p2 m) (ey : ival v.sy v.ys = Y + p2 m)
  (hA : A = none → gl = 0) (hAb : ∀ a, A = some a → a.block ≠ bb) (ho : OffB bb v) (w : World) (hb : SetB w bb v (.slice A gl gl) k) (hN : Ns w A gl G) (hu : CvU w v) :
  Calls Try.prog 45 #[.pointer (some ⟨bb, 0, none⟩), .int .i64 (gl : Int), .int .i64 ((m : Int) + 1)] w fun e w' => ∃ A4 c4, e = .returned (.int .i64 r.2) ∧ SetB w' bb v (.slice A4 r.1.length c4) k ∧ Ns w' A4 c4 r.1 ∧ (A4 = none → c4 = 0) ∧ Ky (fun k => k = bb) w w' := by
 obtain ⟨g1, g2, g3⟩ := grow_ok hq (lv := m + 1) (by omega) (by omega) (by omega)
 rw [← hG] at g1 g2 g3
 rw [← hgl] at g2 g3
 have e := p2_succ m
 have hp := p2_mono (show m + 1 ≤ 1330 by omega)
 have hpp := p2_pos m
 have lx := len_near kx ex (by omega) (by omega)
 have ly := len_near ky ey (by omega) (by omega)
 have vx : ((val v.xs : Nat) : Int) = X + p2 m := by rw [kx.plus (by rw [ex]; omega)] at ex; exact ex
 have vy : ((val v.ys : Nat) : Int) = Y + p2 m := by rw [ky.plus (by rw [ey]; omega)] at ey; exact ey
 have h1 := put_rec bb v k gl A G g1 hgl.symm (by omega) hk hA hAb ho (by omega) (by omega) (m + 1) (gl : Int) w (by omega) g2 hb hN hu
 rw [pF_put vx vy (by omega) (by omega), show ((m + 1 : Nat) : Int) = (m : Int) + 1 by omega] at h1
 have hr2 : putF (m + 1) G (gl : Int) (X + p2 m) (Y + p2 m) (k : Int) = r := by
  rw [hr, setF_grow, ← hG, ← hgl]
  rfl
 rw [hr2] at h1
 refine h1.mono ?_
 rintro e w' ⟨nv, rfl, b3, c3, k3⟩
 obtain ⟨A4, c4, hv, h4, h5⟩ := put_row c3 k3 hN hgl.symm hA hAb
 exact ⟨A4, c4, rfl, by rw [← hv]; exact b3, h4, h5, k3⟩
end Go.Proofs.Ytlnmcilcifbcnaa
