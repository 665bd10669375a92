/-
  cells.least: the least level of a root that has all cells.
  cells: a row of cells that is made, and filled one by one.
  cells: a row of numbers that is made, and filled one by one.
  cells: a tree's cells as a list, how many they are; quads with the same cells are one; plain.
  cells: the quad of a list of cells, said by what it is; the cells of a list's last node; plain.
  cells: how many cells nodes have; plain.
  cells.Count: how many cells a quad has.
  A drawn region walked state by state: orders that come to one state are walked once.
  cells: a node's cells, kid by kid; plain.
  limb.Sub, big.Add of unlike signs, big.Sub: their answers lie in new memory.
  cells.putBit, finder.fromMiddle.
-/
import Derived.Test.YtmfncapgikobkaaGreatGClLe
import Derived.Test.YtmfncapgikobkaaGreatGClR
import Derived.Test.YtmfncapgikobkaaGreatGNcRA
import Derived.Test.YtmfncapgikobkaaGreatGBigF
import Derived.Test.YtmfncapgikobkaaGreatGNcPB
import Derived.Deep.RegionHeld3
import Derived.Deep.RegionWith
import Derived.StillTailTactics
import Derived.Deep.RegionHeld
import Derived.Test.YtmfncapgikobkaaGreatGSums
import Derived.Test.YtmfncapgikobkaaGreatGSmall

namespace Go.Proofs.YtmfncapgikobkaaGreat
set_option maxRecDepth 100000
set_option linter.unusedVariables false
set_option linter.unusedSimpArgs false
open Go.RowKit Nds Num
def inL (c : Cl) (lv : Nat) : Bool := inH c.x (p2 (lv - 1)) && inH c.y (p2 (lv - 1))
def upL (c : Cl) (lv : Nat) : Nat := if h : lv ≤ 1329 then (if inL c lv = true then lv else upL c (lv + 1)) else lv
 termination_by 1330 - lv
theorem upL_stop {c : Cl} {lv : Nat} (h : inL c lv = true) : upL c lv = lv := by
 by_cases h9 : lv ≤ 1329
 ·
  rw [upL, dif_pos h9, if_pos h]
 ·
  rw [upL, dif_neg h9]
theorem upL_top {c : Cl} {lv : Nat} (h : ¬ lv ≤ 1329) : upL c lv = lv := by
 rw [upL, dif_neg h]
theorem upL_next {c : Cl} {lv : Nat} (h : lv ≤ 1329) (h2 : inL c lv = false) : upL c lv = upL c (lv + 1) := by
 rw [upL, dif_pos h, if_neg (by rw [h2]; simp)]
def leastF (l : List Cl) : Nat := l.foldl (fun lv c => upL c lv) 1
theorem leastF_snoc (l : List Cl) (c : Cl) : leastF (l ++ [c]) = upL c (leastF l) := by
 unfold leastF
 rw [List.foldl_append]
 rfl
theorem leastF_take {l : List Cv} {k : Nat} (hk : k < l.length) : leastF ((l.take (k + 1)).map Cv.cl) = upL (cat l k).cl (leastF ((l.take k).map Cv.cl)) := by
 rw [← List.take_append_getElem (l := l) (i := k) hk, List.map_append, List.map_cons, List.map_nil, leastF_snoc, ← cat_get hk]
theorem us_off {w : World} {A : Option Addr} {c : Nat} {xs : List Nat} (h : Us w A c xs) {g : Nat} (hg : ∀ o v, w.cell? ⟨g, o, none⟩ = some v → ∀ k, v ≠ .int .u32 k) : 0 < xs.length → ∀ a, A = some a → a.block ≠ g := fun hx a e he => by
 obtain ⟨b, off, e', hb, hc⟩ := h.at_ hx
 rw [e] at e'
 cases e'
 dsimp only at he
 subst he
 exact hg _ _ (hc 0 hx) _ rfl
structure HX (W : World) (g : Nat) (s : Bool) (A : Option Addr) (c : Nat) (xs : List Nat) (n : Int) : Prop where
 box : W.heap[g]? = some (.cells #[.bool s, .slice A xs.length c] 42)
 us : Us W A c xs
 cn : CanonI s xs
 v : ival s xs = n
 off : 0 < xs.length → ∀ a, A = some a → a.block ≠ g
theorem HX.lt {W : World} {g : Nat} {s : Bool} {A : Option Addr} {c : Nat} {xs : List Nat} {n : Int} (h : HX W g s A c xs n) : g < W.heap.size := (Array.getElem?_eq_some_iff.1 h.box).1
theorem HX.c0 {W : World} {g : Nat} {s : Bool} {A : Option Addr} {c : Nat} {xs : List Nat} {n : Int} (h : HX W g s A c xs n) : W.cell? ⟨g, 0, none⟩ = some (.bool s) := by
 rw [cell_of_row W g _ _ _ _ h.box]; rfl
theorem HX.c1 {W : World} {g : Nat} {s : Bool} {A : Option Addr} {c : Nat} {xs : List Nat} {n : Int} (h : HX W g s A c xs n) : W.cell? ⟨g, 1, none⟩ = some (.slice A xs.length c) := by
 rw [cell_of_row W g _ _ _ _ h.box]; rfl
theorem HX.free {W : World} {g : Nat} {s : Bool} {A : Option Addr} {c : Nat} {xs : List Nat} {n : Int} (h : HX W g s A c xs n) (k : Nat) : W.frozen? ⟨g, k, none⟩ = false := frozen_of_row W g k _ _ h.box
theorem HX.next {W W1 : World} {g : Nat} {s : Bool} {A : Option Addr} {c : Nat} {xs : List Nat} {n : Int} (h : HX W g s A c xs n) (k : Below W.heap.size W W1) : HX W1 g s A c xs n :=
 ⟨(k.block g h.lt).trans h.box, h.us.below k, h.cn, h.v, h.off⟩
theorem bool_cell {W : World} {g : Nat} {s : Bool} {A : Option Addr} {n c : Nat} (h : W.heap[g]? = some (.cells #[.bool s, .slice A n c] 42)) : ∀ o v, W.cell? ⟨g, o, none⟩ = some v → ∀ k, v ≠ .int .u32 k := fun o v hv k e => by
 subst e
 rw [cell_of_row W g _ _ _ _ h] at hv
 match o with
 | 0 => simp at hv
 | 1 => simp at hv
 | o + 2 => simp at hv
theorem HX.set {W : World} {g : Nat} {s s2 : Bool} {A A2 : Option Addr} {c c2 : Nat} {xs ys : List Nat} {n m : Int} (h : HX W g s A c xs n) (hu : Us W A2 c2 ys) (hc : CanonI s2 ys) (hv : ival s2 ys = m) :
  HX ((W.setCell ⟨g, 0, none⟩ (.bool s2)).setCell ⟨g, 1, none⟩ (.slice A2 ys.length c2)) g s2 A2 c2 ys m := by
 have ho := us_off hu (bool_cell h.box)
 have hk : ∀ k, k < W.heap.size → k ≠ g → ((W.setCell ⟨g, 0, none⟩ (.bool s2)).setCell ⟨g, 1, none⟩ (.slice A2 ys.length c2)).heap[k]? = W.heap[k]? := fun k _ hk =>
  (Below.heap_setCell _ _ _ _ hk).trans (Below.heap_setCell _ _ _ _ hk)
 exact ⟨heap_setCell_same _ g 1 _ _ _ (heap_setCell_same W g 0 _ _ _ h.box), us_kept hu hk (by simp [World.setCell]) ho, hc, hv, ho⟩
theorem shl_p2 (n : Nat) : shlI (p2 n) 1 = p2 (n + 1) := by
 unfold shlI
 rw [if_pos (by decide), p2_succ]
 show p2 n * 2 ^ 1 = _
 omega
theorem len_p2 {s : Bool} {xs : List Nat} {n : Nat} (hc : CanonI s xs) (hv : ival s xs = p2 n) (hn : n ≤ 1330) : xs.length ≤ 50 := by
 refine len_ival hc hv 50 ?_
 unfold p2
 obtain ⟨M, hM⟩ : ∃ M, M = 50 := ⟨_, rfl⟩
 rw [← hM, show ((2 : Int) ^ n).natAbs = 2 ^ n by rw [Int.natAbs_pow]; rfl, show (4294967296 : Nat) = 2 ^ 32 by decide, ← Nat.pow_mul]
 exact Nat.pow_lt_pow_right (by decide) (by omega)
set_option maxRecDepth 100000 in
set_option maxHeartbeats 6400000 in
theorem least_any (A0 : Option Addr) (c0 n : Nat) (l : List Cv) (w : World) (h : Cs w A0 c0 l) (hn : l.length = n) (hR : ∀ v ∈ l, CvR v) (hn9 : n ≤ 900000) :
  Calls Tryz.prog 27 #[.slice A0 n c0] w fun e w' => e = .returned (.int .i64 (leastF (l.map Cv.cl) : Nat)) ∧ Below w.heap.size w w' := by
 have hcap := h.cap
 rw [hn] at hcap
 have HC := Lib.hid h
 have HN := Lib.hid hn
 have HR := Lib.hid hR
 clear h hR hn
 go_enter Tryz.func27, Tryz.ntmps27
 go_wp2_with (go_at_call 49; refine (bof_any 1 _ (by decide) (by decide)).mono ?_; rintro e w1 ⟨A1, c1, s1, r1, rfl, q1, k1, v1, b1⟩; have HB1 := Lib.hid b1; have HU1 := Lib.hid q1; have HK1 := Lib.hid k1; have HV1 := Lib.hid v1; clear b1 q1 k1 v1)
 obtain ⟨g, hg⟩ : ∃ g, g = w1.heap.size := ⟨_, rfl⟩
 rw [← hg]
 have HG := Lib.hid (show w.heap.size ≤ g by rw [hg]; exact HB1.out.size)
 have hx0 : HX (w1.alloc (.cells #[.bool s1, .slice A1 r1.length c1] 42)) g s1 A1 c1 r1 (p2 0) := by
  rw [hg]
  have hb := heap_alloc_new w1 (.cells #[.bool s1, .slice A1 r1.length c1] 42)
  exact ⟨hb, HU1.out.below ((Below.refl _ w1).alloc (Nat.le_refl _) _), HK1.out, HV1.out, fun hx a e => by have := us_lt HU1.out hx a e; omega⟩
 have HX0 := Lib.hid hx0
 have HB2 := Lib.hid (HB1.out.alloc HB1.out.size (.cells #[.bool s1, .slice A1 r1.length c1] 42))
 clear hg hx0
 go_loopw [10, 3] (fun z1 z2 wr => ∃ (k lv : Nat) (s : Bool) (A : Option Addr) (c : Nat) (xs : List Nat), k ≤ n ∧ z1 = .int .i64 k ∧ z2 = .int .i64 lv ∧ 1 ≤ lv ∧ lv ≤ 1330 ∧ leastF ((l.take k).map Cv.cl) = lv ∧ HX wr g s A c xs (p2 (lv - 1)) ∧ Below w.heap.size w wr) (fun z1 _ _ => n - (intOf z1).toNat)
 case atStart => exact ⟨0, 1, s1, A1, c1, r1, by omega, rfl, rfl, by omega, by omega, rfl, HX0.out, HB2.out⟩
 case round =>
  obtain ⟨k, lv, s, A, c, xs, hk, rfl, rfl, hl1, hl2, hlv, hx, hb⟩ := hrel
  have HLV := Lib.hid hlv
  have HXX := Lib.hid hx
  have HBB := Lib.hid hb
  clear hlv
  by_cases hlt : k < n
  ·
   have i1 : (k : Int) < (n : Int) := by omega
   have i2 : (0 : Int) ≤ (k : Int) := by omega
   have t1 : decide ((k : Int) < (n : Int)) = true := decide_eq_true i1
   obtain ⟨b, off, rfl, hbl, hcl⟩ := (HC.out.below hb).at_ (by rw [HN.out]; omega)
   obtain ⟨c1_, c2_, c3_, c4_, c5_⟩ := hcl k (by rw [HN.out]; exact hlt)
   have hvu := (HC.out.below hb).1 _ (cat_mem (i := k) (by rw [HN.out]; exact hlt))
   have hvr := HR.out _ (cat_mem (i := k) (by rw [HN.out]; exact hlt))
   obtain ⟨v, hv⟩ : ∃ v, v = cat l k := ⟨_, rfl⟩
   rw [← hv] at c1_ c2_ c3_ c4_ c5_ hvu hvr
   have hv1 := hvu.1.cap
   have hv2 := hvu.2.1.cap
   have HV := Lib.hid hv
   have HVU := Lib.hid hvu
   have HVR := Lib.hid hvr
   have HCL := Lib.hid hcl
   clear hv hvu hvr hcl hx hb
   go_wp2_with fail
   obtain ⟨bx, hbx⟩ : ∃ bx, bx = wr.heap.size := ⟨_, rfl⟩
   rw [← hbx]
   have hgx : Gro wr (wr.alloc (.cells #[.bool v.sx, .slice v.ax v.xs.length v.cx, .bool v.sy, .slice v.ay v.ys.length v.cy, .int .u8 v.st] 47)) := (Gro.refl wr).alloc _
   have hcv : CvAt (wr.alloc (.cells #[.bool v.sx, .slice v.ax v.xs.length v.cx, .bool v.sy, .slice v.ay v.ys.length v.cy, .int .u8 v.st] 47)) bx 0 v := by rw [hbx]; exact CvAt.new wr v _
   have hbxg : g < bx := by rw [hbx]; exact HXX.out.lt
   have hbxl : bx < (wr.alloc (.cells #[.bool v.sx, .slice v.ax v.xs.length v.cx, .bool v.sy, .slice v.ay v.ys.length v.cy, .int .u8 v.st] 47)).heap.size := by rw [hbx]; simp
   have HXA := Lib.hid (HXX.out.next hgx.b)
   have HBA := Lib.hid (HBB.out.trans (hgx.b.mono HBB.out.size))
   have HUA := Lib.hid (HVU.out.below hgx.b)
   clear hbx hgx
   go_loopw [3] (fun z2 wi => ∃ (lw : Nat) (s : Bool) (A : Option Addr) (c : Nat) (xs : List Nat), z2 = .int .i64 lw ∧ 1 ≤ lw ∧ lw ≤ 1330 ∧ upL v.cl lv = upL v.cl lw ∧ HX wi g s A c xs (p2 (lw - 1)) ∧ CvAt wi bx 0 v ∧ CvU wi v ∧ bx < wi.heap.size ∧ Below w.heap.size w wi) (fun z2 _ => 1330 - (intOf z2).toNat)
   case atStart => exact ⟨lv, s, A, c, xs, rfl, hl1, hl2, rfl, HXA.out, hcv, HUA.out, hbxl, HBA.out⟩
   case round =>
    obtain ⟨lw, s, A, c, xs, rfl, h1, h2, hup, hxi, hci, hui, hli, hbi⟩ := hrel
    have HUP := Lib.hid hup
    have HIX := Lib.hid hxi
    have HIU := Lib.hid hui
    have HIC := Lib.hid hci
    have HIL := Lib.hid hli
    have HIB := Lib.hid hbi
    have HLN := Lib.hid (len_p2 hxi.cn hxi.v (by omega))
    have HGX := Lib.hid hbxg
    obtain ⟨d1, d2, d3, d4, d5⟩ := hci
    have x1 := hxi.c0
    have x2 := hxi.c1
    have x3 := hxi.free 0
    have x4 := hxi.free 1
    have hxc := hxi.us.cap
    clear hup hxi hui hli hbi hcv
    by_cases hL : lw ≤ 1329
    ·
     have t2 : decide ((lw : Int) ≤ 1329) = true := decide_eq_true (by omega)
     obtain ⟨bX, hbX⟩ : ∃ bX, bX = inH (ival v.sx v.xs) (ival s xs) := ⟨_, rfl⟩
     obtain ⟨bY, hbY⟩ : ∃ bY, bY = inH (ival v.sy v.ys) (ival s xs) := ⟨_, rfl⟩
     have HQX := Lib.hid hbX
     have HQY := Lib.hid hbY
     have HVX := Lib.hid (show bX = inH v.cl.x (p2 (lw - 1)) by rw [← HIX.out.v]; exact hbX)
     have HVY := Lib.hid (show bY = inH v.cl.y (p2 (lw - 1)) by rw [← HIX.out.v]; exact hbY)
     clear hbX hbY
     cases bX with
     | false =>
      go_wp2_with (first
       | (go_at_call_of 59 (Value.agg #[Value.bool v.sx, Value.slice v.ax v.xs.length v.cx]); refine (cwithin_any v.sx s v.ax A v.cx c v.xs xs _ HIU.out.1 HIX.out.us HVR.out.2.2.1 (by have := HLN.out; omega) HVR.out.1 HIX.out.cn).mono ?_; rintro e w5 ⟨rfl, b5⟩; rw [← HQX.out]; have HIX5 := Lib.hid (HIX.out.next b5); have HIU5 := Lib.hid (HIU.out.below b5); have HIC5 := Lib.hid (HIC.out.below (b5.block bx HIL.out)); have HIL5 := Lib.hid (Nat.lt_of_lt_of_le HIL.out b5.size); have HIB5 := Lib.hid (HIB.out.trans (b5.mono HIB.out.size)); clear b5; obtain ⟨f1, f2, f3, f4, f5⟩ := HIC5.out; have y1 := HIX5.out.c0; have y2 := HIX5.out.c1; have y3 := HIX5.out.free 0; have y4 := HIX5.out.free 1)
       | (go_at_call 60; refine (bshl_any s A c xs 1 _ HIX5.out.us (by have := HLN.out; omega)).mono ?_; rintro e w7 ⟨A7, c7, s7, r7, rfl, u7, k7, v7, b7⟩; have HIX7 := Lib.hid (HIX5.out.next b7); have HU7 := Lib.hid u7; have HK7 := Lib.hid k7; have HV7 := Lib.hid v7; have HIU7 := Lib.hid (HIU5.out.below b7); have HIC7 := Lib.hid (HIC5.out.below (b7.block bx HIL5.out)); have HIL7 := Lib.hid (Nat.lt_of_lt_of_le HIL5.out b7.size); have HIB7 := Lib.hid (HIB5.out.trans (b7.mono HIB5.out.size)); clear u7 k7 v7 b7; have g1 := HIX7.out.c0; have g2 := HIX7.out.c1; have g3 := HIX7.out.free 0; have g4 := HIX7.out.free 1))
      go_roundw
      case rel =>
       have hx7 : HX ((w7.setCell ⟨g, 0, none⟩ (.bool s7)).setCell ⟨g, 1, none⟩ (.slice A7 r7.length c7)) g s7 A7 c7 r7 (p2 (lw + 1 - 1)) := HIX7.out.set HU7.out HK7.out (by rw [HV7.out, HIX.out.v, shl_p2, show lw - 1 + 1 = lw + 1 - 1 by omega])
       have hkk : ∀ q, q ≠ g → ((w7.setCell ⟨g, 0, none⟩ (.bool s7)).setCell ⟨g, 1, none⟩ (.slice A7 r7.length c7)).heap[q]? = w7.heap[q]? := fun q hq => (Below.heap_setCell _ _ _ _ hq).trans (Below.heap_setCell _ _ _ _ hq)
       refine ⟨lw + 1, s7, A7, c7, r7, by go_num, by omega, by omega, ?_, hx7, HIC7.out.below (hkk bx (by have := HGX.out; omega)), ?_, by simp [World.setCell]; exact HIL7.out, (HIB7.out.setCell (p := ⟨g, 0, none⟩) HG.out _).setCell (p := ⟨g, 1, none⟩) HG.out _⟩
       ·
        rw [HUP.out]; exact upL_next hL (by unfold inL; rw [← HVX.out, ← HVY.out]; simp)
       ·
        refine cvU_kept HIU7.out (fun q _ hq => hkk q hq) (by simp [World.setCell]) ⟨us_off HIU7.out.1 (bool_cell HIX7.out.box), us_off HIU7.out.2.1 (bool_cell HIX7.out.box)⟩
      case measure => simp [intOf]; omega
     | true =>
      cases bY with
      | false =>
       go_wp2_with (first
        | (go_at_call_of 59 (Value.agg #[Value.bool v.sx, Value.slice v.ax v.xs.length v.cx]); refine (cwithin_any v.sx s v.ax A v.cx c v.xs xs _ HIU.out.1 HIX.out.us HVR.out.2.2.1 (by have := HLN.out; omega) HVR.out.1 HIX.out.cn).mono ?_; rintro e w5 ⟨rfl, b5⟩; rw [← HQX.out]; have HIX5 := Lib.hid (HIX.out.next b5); have HIU5 := Lib.hid (HIU.out.below b5); have HIC5 := Lib.hid (HIC.out.below (b5.block bx HIL.out)); have HIL5 := Lib.hid (Nat.lt_of_lt_of_le HIL.out b5.size); have HIB5 := Lib.hid (HIB.out.trans (b5.mono HIB.out.size)); clear b5; obtain ⟨f1, f2, f3, f4, f5⟩ := HIC5.out; have y1 := HIX5.out.c0; have y2 := HIX5.out.c1; have y3 := HIX5.out.free 0; have y4 := HIX5.out.free 1)
        | (go_at_call_of 59 (Value.agg #[Value.bool v.sy, Value.slice v.ay v.ys.length v.cy]); refine (cwithin_any v.sy s v.ay A v.cy c v.ys xs _ HIU5.out.2.1 HIX5.out.us HVR.out.2.2.2 (by have := HLN.out; omega) HVR.out.2.1 HIX5.out.cn).mono ?_; rintro e w6 ⟨rfl, b6⟩; rw [← HQY.out]; have HIX6 := Lib.hid (HIX5.out.next b6); have HIU6 := Lib.hid (HIU5.out.below b6); have HIC6 := Lib.hid (HIC5.out.below (b6.block bx HIL5.out)); have HIL6 := Lib.hid (Nat.lt_of_lt_of_le HIL5.out b6.size); have HIB6 := Lib.hid (HIB5.out.trans (b6.mono HIB5.out.size)); clear b6; have z1 := HIX6.out.c0; have z2 := HIX6.out.c1; have z3 := HIX6.out.free 0; have z4 := HIX6.out.free 1)
        | (go_at_call 60; refine (bshl_any s A c xs 1 _ HIX6.out.us (by have := HLN.out; omega)).mono ?_; rintro e w7 ⟨A7, c7, s7, r7, rfl, u7, k7, v7, b7⟩; have HIX7 := Lib.hid (HIX6.out.next b7); have HU7 := Lib.hid u7; have HK7 := Lib.hid k7; have HV7 := Lib.hid v7; have HIU7 := Lib.hid (HIU6.out.below b7); have HIC7 := Lib.hid (HIC6.out.below (b7.block bx HIL6.out)); have HIL7 := Lib.hid (Nat.lt_of_lt_of_le HIL6.out b7.size); have HIB7 := Lib.hid (HIB6.out.trans (b7.mono HIB6.out.size)); clear u7 k7 v7 b7; have g1 := HIX7.out.c0; have g2 := HIX7.out.c1; have g3 := HIX7.out.free 0; have g4 := HIX7.out.free 1))
       go_roundw
       case rel =>
        have hx7 : HX ((w7.setCell ⟨g, 0, none⟩ (.bool s7)).setCell ⟨g, 1, none⟩ (.slice A7 r7.length c7)) g s7 A7 c7 r7 (p2 (lw + 1 - 1)) := HIX7.out.set HU7.out HK7.out (by rw [HV7.out, HIX.out.v, shl_p2, show lw - 1 + 1 = lw + 1 - 1 by omega])
        have hkk : ∀ q, q ≠ g → ((w7.setCell ⟨g, 0, none⟩ (.bool s7)).setCell ⟨g, 1, none⟩ (.slice A7 r7.length c7)).heap[q]? = w7.heap[q]? := fun q hq => (Below.heap_setCell _ _ _ _ hq).trans (Below.heap_setCell _ _ _ _ hq)
        refine ⟨lw + 1, s7, A7, c7, r7, by go_num, by omega, by omega, ?_, hx7, HIC7.out.below (hkk bx (by have := HGX.out; omega)), ?_, by simp [World.setCell]; exact HIL7.out, (HIB7.out.setCell (p := ⟨g, 0, none⟩) HG.out _).setCell (p := ⟨g, 1, none⟩) HG.out _⟩
        ·
         rw [HUP.out]; exact upL_next hL (by unfold inL; rw [← HVX.out, ← HVY.out]; simp)
        ·
         refine cvU_kept HIU7.out (fun q _ hq => hkk q hq) (by simp [World.setCell]) ⟨us_off HIU7.out.1 (bool_cell HIX7.out.box), us_off HIU7.out.2.1 (bool_cell HIX7.out.box)⟩
       case measure => simp [intOf]; omega
      | true =>
       go_wp2_with (first
        | (go_at_call_of 59 (Value.agg #[Value.bool v.sx, Value.slice v.ax v.xs.length v.cx]); refine (cwithin_any v.sx s v.ax A v.cx c v.xs xs _ HIU.out.1 HIX.out.us HVR.out.2.2.1 (by have := HLN.out; omega) HVR.out.1 HIX.out.cn).mono ?_; rintro e w5 ⟨rfl, b5⟩; rw [← HQX.out]; have HIX5 := Lib.hid (HIX.out.next b5); have HIU5 := Lib.hid (HIU.out.below b5); have HIC5 := Lib.hid (HIC.out.below (b5.block bx HIL.out)); have HIL5 := Lib.hid (Nat.lt_of_lt_of_le HIL.out b5.size); have HIB5 := Lib.hid (HIB.out.trans (b5.mono HIB.out.size)); clear b5; obtain ⟨f1, f2, f3, f4, f5⟩ := HIC5.out; have y1 := HIX5.out.c0; have y2 := HIX5.out.c1; have y3 := HIX5.out.free 0; have y4 := HIX5.out.free 1)
        | (go_at_call_of 59 (Value.agg #[Value.bool v.sy, Value.slice v.ay v.ys.length v.cy]); refine (cwithin_any v.sy s v.ay A v.cy c v.ys xs _ HIU5.out.2.1 HIX5.out.us HVR.out.2.2.2 (by have := HLN.out; omega) HVR.out.2.1 HIX5.out.cn).mono ?_; rintro e w6 ⟨rfl, b6⟩; rw [← HQY.out]; have HIX6 := Lib.hid (HIX5.out.next b6); have HIU6 := Lib.hid (HIU5.out.below b6); have HIC6 := Lib.hid (HIC5.out.below (b6.block bx HIL5.out)); have HIL6 := Lib.hid (Nat.lt_of_lt_of_le HIL5.out b6.size); have HIB6 := Lib.hid (HIB5.out.trans (b6.mono HIB5.out.size)); clear b6; have z1 := HIX6.out.c0; have z2 := HIX6.out.c1; have z3 := HIX6.out.free 0; have z4 := HIX6.out.free 1))
       go_roundw
       case rel =>
        refine ⟨k + 1, lw, s, A, c, xs, by omega, by go_num, rfl, by omega, by omega, ?_, HIX6.out, HIB6.out⟩
        rw [leastF_take (by rw [HN.out]; exact hlt), ← HV.out, HLV.out, HUP.out]
        exact upL_stop (by unfold inL; rw [← HVX.out, ← HVY.out]; rfl)
       case measure => simp [intOf]; omega
    ·
     have t2 : decide ((lw : Int) ≤ 1329) = false := decide_eq_false (by omega)
     go_wp2_with fail
     go_roundw
     case rel =>
      refine ⟨k + 1, lw, s, A, c, xs, by omega, by go_num, rfl, by omega, by omega, ?_, HIX.out, HIB.out⟩
      rw [leastF_take (by rw [HN.out]; exact hlt), ← HV.out, HLV.out, HUP.out]
      exact upL_top hL
     case measure => simp [intOf]; omega
  ·
   obtain rfl : k = n := by omega
   have t1 : decide ((k : Int) < (k : Int)) = false := decide_eq_false (by omega)
   clear hx hb
   go_wp2_with fail
   go_ret
   refine ⟨?_, HBB.out⟩
   rw [← HLV.out, List.take_of_length_le (by rw [HN.out]; exact Nat.le_refl _)]
   rfl
end Go.Proofs.YtmfncapgikobkaaGreat

namespace Go.Proofs.YtmfncapgikobkaaGreat
set_option maxRecDepth 100000
set_option linter.unusedVariables false
set_option linter.unusedSimpArgs false
open Go.RowKit Nds
theorem cvcs_set : ∀ (L : List Cv) (i : Nat) (v : Cv), i < L.length →
  cvcs (L.set i v) = (((((cvcs L).set (i * 5) (.bool v.sx)).set (i * 5 + 1) (.slice v.ax v.xs.length v.cx)).set (i * 5 + 2) (.bool v.sy)).set (i * 5 + 3) (.slice v.ay v.ys.length v.cy)).set (i * 5 + 4) (.int .u8 v.st)
 | [], i, v, h => by simp at h
 | x :: L, 0, v, h => rfl
 | x :: L, i + 1, v, h => by
  have ih := cvcs_set L i v (by simpa using h)
  show encC x ++ cvcs (L.set i v) = _
  rw [ih]
  show _ = (((((encC x ++ cvcs L).set ((i + 1) * 5) _).set ((i + 1) * 5 + 1) _).set ((i + 1) * 5 + 2) _).set ((i + 1) * 5 + 3) _).set ((i + 1) * 5 + 4) _
  have e : ∀ (l : List Value) (k : Nat) (u : Value), (encC x ++ l).set ((i + 1) * 5 + k) u = encC x ++ l.set (i * 5 + k) u := fun l k u => by
   rw [List.set_append_right _ _ (by show 5 ≤ _; omega)]
   congr 2
   show (i + 1) * 5 + k - 5 = _
   omega
  have e0 : ∀ (l : List Value) (u : Value), (encC x ++ l).set ((i + 1) * 5) u = encC x ++ l.set (i * 5) u := fun l u => e l 0 u
  rw [e0, e, e, e, e]
theorem OwnC.put {w : World} {base g n cap : Nat} {L : List Cv} (h : OwnC w base (.slice (some ⟨g, 0, none⟩) n cap) L) (hn : L.length = n) {i : Nat} (hi : i < n) (v : Cv) :
  OwnC (((((w.setCell ⟨g, i * 5, none⟩ (.bool v.sx)).setCell ⟨g, i * 5 + 1, none⟩ (.slice v.ax v.xs.length v.cx)).setCell ⟨g, i * 5 + 2, none⟩ (.bool v.sy)).setCell ⟨g, i * 5 + 3, none⟩ (.slice v.ay v.ys.length v.cy)).setCell ⟨g, i * 5 + 4, none⟩ (.int .u8 v.st)) base (.slice (some ⟨g, 0, none⟩) n cap) (L.set i v) := by
 unfold OwnC at h ⊢
 rw [List.length_set, hn, cvcs_set L i v (by omega)]
 rw [hn] at h
 exact (((((h.stored (i * 5) (.bool v.sx)).1.stored (i * 5 + 1) (.slice v.ax v.xs.length v.cx)).1.stored (i * 5 + 2) (.bool v.sy)).1.stored (i * 5 + 3) (.slice v.ay v.ys.length v.cy)).1.stored (i * 5 + 4) (.int .u8 v.st)).1
theorem gb_two {a b c : World} {g : Nat} (h : a.grownBy b (some g)) (k : b.grownBy c (some g)) : a.grownBy c (some g) :=
 ⟨k.os.trans h.os, k.tape.trans h.tape, k.output.trans h.output, Nat.le_trans h.size k.size, fun i hi hne => (k.block i (Nat.lt_of_lt_of_le hi h.size) hne).trans (h.block i hi hne)⟩
theorem setC_one (w : World) (g o : Nat) (a : Value) : w.grownBy (w.setCell ⟨g, o, none⟩ a) (some g) :=
 ⟨rfl, rfl, rfl, by simp [World.setCell], fun i _ hi => Below.heap_setCell _ _ _ _ (fun e => hi (by rw [e]))⟩
theorem setC_grown (w : World) (g o : Nat) (a b c d e : Value) : w.grownBy (((((w.setCell ⟨g, o, none⟩ a).setCell ⟨g, o + 1, none⟩ b).setCell ⟨g, o + 2, none⟩ c).setCell ⟨g, o + 3, none⟩ d).setCell ⟨g, o + 4, none⟩ e) (some g) :=
 gb_two (gb_two (gb_two (gb_two (setC_one w g o a) (setC_one _ g (o + 1) b)) (setC_one _ g (o + 2) c)) (setC_one _ g (o + 3) d)) (setC_one _ g (o + 4) e)
theorem madeC (n : Nat) : (madeCells (cvv cv0).cells (n * 5)).toList = cvcs (List.replicate n cv0) := by
 refine List.ext_getElem? fun t => ?_
 by_cases ht : t < n * 5
 ·
  obtain ⟨i, j, rfl, hj⟩ : ∃ i j, t = i * 5 + j ∧ j < 5 := ⟨t / 5, t % 5, by omega, by omega⟩
  rw [cvcs_at _ i j (by rw [List.length_replicate]; omega) hj]
  have e1 : cat (List.replicate n cv0) i = cv0 := by
   unfold cat
   rw [List.getElem?_replicate, if_pos (by omega)]
   rfl
  rw [e1]
  simp only [madeCells, Array.getElem?_toList]
  match j, hj with
  | 0, _ =>
   simp only [Nat.add_zero] at ht ⊢
   simp [ht, cv0, encC, Value.cells, show i * 5 % 5 = 0 by omega]
  | 1, _ => simp [ht, cv0, encC, Value.cells, show (i * 5 + 1) % 5 = 1 by omega]
  | 2, _ => simp [ht, cv0, encC, Value.cells, show (i * 5 + 2) % 5 = 2 by omega]
  | 3, _ => simp [ht, cv0, encC, Value.cells, show (i * 5 + 3) % 5 = 3 by omega]
  | 4, _ => simp [ht, cv0, encC, Value.cells, show (i * 5 + 4) % 5 = 4 by omega]
 ·
  rw [List.getElem?_eq_none (by rw [Array.length_toList, size_madeCells]; omega), List.getElem?_eq_none (by rw [cvcs_len, List.length_replicate]; omega)]
theorem OwnC.made {w : World} {base g n : Nat} (h : w.ownsRow base 47 5 (.slice (some ⟨g, 0, none⟩) n n) n (madeCells (cvv cv0).cells (n * 5)).toList) : OwnC w base (.slice (some ⟨g, 0, none⟩) n n) (List.replicate n cv0) := by
 unfold OwnC
 rw [List.length_replicate, ← madeC]
 exact h
theorem OwnC.no_limb {w : World} {base g n : Nat} {L : List Cv} (h : OwnC w base (.slice (some ⟨g, 0, none⟩) n n) L) (hn : L.length = n) : ∀ o v, w.cell? ⟨g, o, none⟩ = some v → ∀ k, v ≠ .int .u32 k := by
 intro o v hv k e
 subst e
 unfold OwnC at h
 rw [hn] at h
 rcases h.2 with ⟨h', _⟩ | ⟨g', cap, cur, h', hb, hg, hnc, hcm, hcs, htake⟩
 ·
  cases h'
 ·
  cases h'
  rw [cell_of_row w g o cur _ (0, 0) hg] at hv
  have ho : o < n * 5 := by
   have := (Array.getElem?_eq_some_iff.1 hv).1
   omega
  have h2 : (cvcs L)[o]? = some (.int .u32 k) := by
   rw [← htake, List.getElem?_take, if_pos ho, Array.getElem?_toList]
   exact hv
  have h3 : (Value.int .u32 k) ∈ cvcs L := List.mem_of_getElem? h2
  obtain ⟨x, _, hx⟩ := List.mem_flatMap.1 h3
  simp [encC] at hx
end Go.Proofs.YtmfncapgikobkaaGreat

namespace Go.Proofs.YtmfncapgikobkaaGreat
set_option maxRecDepth 100000
set_option linter.unusedVariables false
set_option linter.unusedSimpArgs false
open Go.RowKit Nds
structure Gv where
 s : Bool
 a : Option Addr
 c : Nat
 xs : List Nat
def gv0 : Gv := ⟨false, none, 0, []⟩
def gat (l : List Gv) (i : Nat) : Gv := l[i]?.getD gv0
def encG (v : Gv) : List Value := [.bool v.s, .slice v.a v.xs.length v.c]
abbrev gvv (v : Gv) : Value := .agg #[.bool v.s, .slice v.a v.xs.length v.c]
theorem Tryz.infoG : (Tryz.prog.info? 42).map (fun i => (i.zero, i.size, i.bytes)) = some (some (gvv gv0), 2, 32) := by kernel_rfl
def gvcs (l : List Gv) : List Value := l.flatMap encG
theorem gvcs_len (l : List Gv) : (gvcs l).length = l.length * 2 := by
 unfold gvcs
 induction l with
 | nil => rfl
 | cons x l ih =>
  rw [List.flatMap_cons, List.length_append, ih, List.length_cons]
  show 2 + _ = _
  omega
theorem gvcs_at : ∀ (l : List Gv) (i j : Nat), i < l.length → j < 2 → (gvcs l)[i * 2 + j]? = (encG (gat l i))[j]?
 | [], i, _, hi, _ => by simp at hi
 | x :: l, 0, j, _, hj => by
  show (encG x ++ gvcs l)[0 * 2 + j]? = _
  rw [List.getElem?_append_left (by show _ < 2; omega), show 0 * 2 + j = j by omega]
  rfl
 | x :: l, i + 1, j, hi, hj => by
  show (encG x ++ gvcs l)[(i + 1) * 2 + j]? = _
  rw [List.getElem?_append_right (by show 2 ≤ _; omega), show (i + 1) * 2 + j - (encG x).length = i * 2 + j by show _ - 2 = _; omega, gvcs_at l i j (by simpa using hi) hj]
  rfl
theorem gvcs_set : ∀ (L : List Gv) (i : Nat) (v : Gv), i < L.length → gvcs (L.set i v) = ((gvcs L).set (i * 2) (.bool v.s)).set (i * 2 + 1) (.slice v.a v.xs.length v.c)
 | [], i, v, h => by simp at h
 | x :: L, 0, v, h => rfl
 | x :: L, i + 1, v, h => by
  have ih := gvcs_set L i v (by simpa using h)
  show encG x ++ gvcs (L.set i v) = _
  rw [ih]
  show _ = ((encG x ++ gvcs L).set ((i + 1) * 2) _).set ((i + 1) * 2 + 1) _
  have e : ∀ (l : List Value) (k : Nat) (u : Value), (encG x ++ l).set ((i + 1) * 2 + k) u = encG x ++ l.set (i * 2 + k) u := fun l k u => by
   rw [List.set_append_right _ _ (by show 2 ≤ _; omega)]
   congr 2
   show (i + 1) * 2 + k - 2 = _
   omega
  have e0 : ∀ (l : List Value) (u : Value), (encG x ++ l).set ((i + 1) * 2) u = encG x ++ l.set (i * 2) u := fun l u => e l 0 u
  rw [e0, e]
def OwnG (w : World) (base g n : Nat) (l : List Gv) : Prop := l.length = n ∧ w.ownsRow base 42 2 (.slice (some ⟨g, 0, none⟩) n n) n (gvcs l)
theorem OwnG.row {w : World} {base g n : Nat} {l : List Gv} (h : OwnG w base g n l) : base ≤ g ∧ g < w.heap.size ∧ (∀ i, i < n → w.cell? ⟨g, i * 2, none⟩ = some (.bool (gat l i).s) ∧ w.cell? ⟨g, i * 2 + 1, none⟩ = some (.slice (gat l i).a (gat l i).xs.length (gat l i).c)) ∧ (∀ o, w.frozen? ⟨g, o, none⟩ = false) ∧ (∀ o v, w.cell? ⟨g, o, none⟩ = some v → ∀ k, v ≠ .int .u32 k) := by
 obtain ⟨hn, h⟩ := h
 rcases h.2 with ⟨h', _⟩ | ⟨g', cap, cur, h', hb, hg, hnc, hcm, hcs, htake⟩
 ·
  cases h'
 ·
  cases h'
  have hlt : g < w.heap.size := by
   rcases Nat.lt_or_ge g w.heap.size with hlt | hge
   ·
    exact hlt
   ·
    rw [Array.getElem?_eq_none hge] at hg; cases hg
  have hcell : ∀ i, i < n → ∀ j, j < 2 → w.cell? ⟨g, i * 2 + j, none⟩ = (encG (gat l i))[j]? := by
   intro i hi j hj
   have hlt : i * 2 + j < n * 2 := by omega
   rw [cell_of_row w g (i * 2 + j) cur _ (0, 0) hg, ← gvcs_at l i j (by omega) hj, ← htake, List.getElem?_take, if_pos hlt]
   simp
  refine ⟨hb, hlt, fun i hi => ⟨hcell i hi 0 (by omega), hcell i hi 1 (by omega)⟩, fun o => frozen_of_row _ _ _ _ _ hg, ?_⟩
  intro o v hv k e
  subst e
  rw [cell_of_row w g o cur _ (0, 0) hg] at hv
  have ho : o < n * 2 := by
   have := (Array.getElem?_eq_some_iff.1 hv).1
   omega
  have h2 : (gvcs l)[o]? = some (.int .u32 k) := by
   rw [← htake, List.getElem?_take, if_pos ho, Array.getElem?_toList]
   exact hv
  have h3 : (Value.int .u32 k) ∈ gvcs l := List.mem_of_getElem? h2
  obtain ⟨x, _, hx⟩ := List.mem_flatMap.1 h3
  simp [encG] at hx
theorem OwnG.kept {w w' : World} {base g n : Nat} {l : List Gv} (h : OwnG w base g n l) {row : Option Nat} (hg : w.grownBy w' row) (hv : row ≠ some g) : OwnG w' base g n l :=
 ⟨h.1, World.ownsRow.kept h.2 hg (.inr fun e => hv e.symm)⟩
theorem OwnG.next {w w' : World} {base g n : Nat} {l : List Gv} (h : OwnG w base g n l) (hb : Below w.heap.size w w') : OwnG w' base g n l := h.kept (gbN hb) (by simp)
theorem OwnG.put {w : World} {base g n : Nat} {L : List Gv} (h : OwnG w base g n L) {i : Nat} (hi : i < n) (v : Gv) :
  OwnG ((w.setCell ⟨g, i * 2, none⟩ (.bool v.s)).setCell ⟨g, i * 2 + 1, none⟩ (.slice v.a v.xs.length v.c)) base g n (L.set i v) := by
 refine ⟨by rw [List.length_set]; exact h.1, ?_⟩
 rw [gvcs_set L i v (by rw [h.1]; exact hi)]
 exact ((h.2.stored (i * 2) (.bool v.s)).1.stored (i * 2 + 1) (.slice v.a v.xs.length v.c)).1
theorem madeG (n : Nat) : (madeCells (gvv gv0).cells (n * 2)).toList = gvcs (List.replicate n gv0) := by
 refine List.ext_getElem? fun t => ?_
 by_cases ht : t < n * 2
 ·
  obtain ⟨i, j, rfl, hj⟩ : ∃ i j, t = i * 2 + j ∧ j < 2 := ⟨t / 2, t % 2, by omega, by omega⟩
  rw [gvcs_at _ i j (by rw [List.length_replicate]; omega) hj]
  have e1 : gat (List.replicate n gv0) i = gv0 := by
   unfold gat
   rw [List.getElem?_replicate, if_pos (by omega)]
   rfl
  rw [e1]
  simp only [madeCells, Array.getElem?_toList]
  match j, hj with
  | 0, _ =>
   simp only [Nat.add_zero] at ht ⊢
   simp [ht, gv0, encG, Value.cells, show i * 2 % 2 = 0 by omega]
  | 1, _ => simp [ht, gv0, encG, Value.cells, show (i * 2 + 1) % 2 = 1 by omega]
 ·
  rw [List.getElem?_eq_none (by rw [Array.length_toList, size_madeCells]; omega), List.getElem?_eq_none (by rw [gvcs_len, List.length_replicate]; omega)]
theorem OwnG.made {w : World} {base g n : Nat} (h : w.ownsRow base 42 2 (.slice (some ⟨g, 0, none⟩) n n) n (madeCells (gvv gv0).cells (n * 2)).toList) : OwnG w base g n (List.replicate n gv0) :=
 ⟨List.length_replicate, by rw [← madeG]; exact h⟩
theorem gat_set_same {L : List Gv} {i : Nat} (h : i < L.length) (u : Gv) : gat (L.set i u) i = u := by
 unfold gat
 rw [List.getElem?_set, if_pos rfl, if_pos h]
 rfl
theorem gat_set_ne {L : List Gv} {i j : Nat} (h : i ≠ j) (u : Gv) : gat (L.set i u) j = gat L j := by
 unfold gat
 rw [List.getElem?_set, if_neg h]
structure GIn (W : World) (v : Gv) (m : Int) : Prop where
 us : Us W v.a v.c v.xs
 cn : CanonI v.s v.xs
 v : ival v.s v.xs = m
theorem GIn.next {W W1 : World} {v : Gv} {m : Int} (h : GIn W v m) (k : Below W.heap.size W W1) : GIn W1 v m := ⟨h.us.below k, h.cn, h.v⟩
theorem GIn.over {W W1 : World} {v : Gv} {m : Int} {g : Nat} (h : GIn W v m) (hg : ∀ o v, W.cell? ⟨g, o, none⟩ = some v → ∀ k, v ≠ .int .u32 k) (hk : W.grownBy W1 (some g)) : GIn W1 v m :=
 ⟨us_kept h.us (fun q h1 h2 => hk.block q h1 (fun e => h2 (by cases e; rfl))) hk.size (us_off h.us hg), h.cn, h.v⟩
theorem GIn.zero (W : World) : GIn W gv0 0 := ⟨Us.nil W, ⟨Num.canon_nil, fun h => by cases h⟩, rfl⟩
end Go.Proofs.YtmfncapgikobkaaGreat

namespace Go.Proofs.YtmfncapgikobkaaGreat
set_option maxRecDepth 100000
set_option linter.unusedVariables false
set_option linter.unusedSimpArgs false
open Nds
def listT : Tr → Int → Int → List Cl
 | .e, _, _ => []
 | .s k, X, Y => [⟨X, Y, k⟩]
 | .n v a b c d, X, Y => listT a X Y ++ listT b (X + p2 (v.toNat - 1)) Y ++ listT c X (Y + p2 (v.toNat - 1)) ++ listT d (X + p2 (v.toNat - 1)) (Y + p2 (v.toNat - 1))
def countT : Tr → Nat
 | .e => 0
 | .s _ => 1
 | .n _ a b c d => countT a + countT b + countT c + countT d
theorem listT_len : ∀ (t : Tr) (X Y : Int), (listT t X Y).length = countT t
 | .e, _, _ => rfl
 | .s k, _, _ => rfl
 | .n v a b c d, X, Y => by
  show (listT a X Y ++ listT b (X + p2 (v.toNat - 1)) Y ++ listT c X (Y + p2 (v.toNat - 1)) ++ listT d (X + p2 (v.toNat - 1)) (Y + p2 (v.toNat - 1))).length = countT a + countT b + countT c + countT d
  rw [List.length_append, List.length_append, List.length_append, listT_len a, listT_len b, listT_len c, listT_len d]
theorem lk_app : ∀ (l m : List Cl) (x y : Int), lk (l ++ m) x y = if (∃ c ∈ l, c.x = x ∧ c.y = y) then lk l x y else lk m x y
 | [], m, x, y => by
  rw [if_neg (by rintro ⟨c, hc, _⟩; cases hc)]
  rfl
 | a :: l, m, x, y => by
  show (if a.x = x ∧ a.y = y then a.s else lk (l ++ m) x y) = if _ then (if a.x = x ∧ a.y = y then a.s else lk l x y) else _
  by_cases ha : a.x = x ∧ a.y = y
  ·
   rw [if_pos ha, if_pos ⟨a, by simp, ha⟩, if_pos ha]
  ·
   rw [if_neg ha, lk_app l m x y]
   by_cases hl : ∃ c ∈ l, c.x = x ∧ c.y = y
   ·
    obtain ⟨c, hc, h⟩ := hl
    rw [if_pos ⟨c, hc, h⟩, if_pos ⟨c, by simp [hc], h⟩, if_neg ha]
   ·
    rw [if_neg hl, if_neg]
    rintro ⟨c, hc, h⟩
    rcases List.mem_cons.1 hc with rfl | hc
    ·
     exact ha h
    ·
     exact hl ⟨c, hc, h⟩
theorem lk_app_sq {X Y h : Int} {l m : List Cl} (hl : ∀ c ∈ l, sqB X Y h c = true) (hm : ∀ c ∈ m, sqB X Y h c = false) (x y : Int) : lk (l ++ m) x y = lk l x y + lk m x y := by
 rw [lk_app]
 by_cases he : ∃ c ∈ l, c.x = x ∧ c.y = y
 ·
  rw [if_pos he]
  obtain ⟨c, hc, h1⟩ := he
  have h2 := sq_iff.1 (hl c hc)
  rw [lk_none (l := m) (fun d hd e => by
   have h3 := hm d hd
   have h4 : sqB X Y h d = true := sq_iff.2 (by rw [e.1, e.2, ← h1.1, ← h1.2]; exact h2)
   rw [h4] at h3
   cases h3)]
  omega
 ·
  rw [if_neg he, lk_none (l := l) (fun d hd e => he ⟨d, hd, e⟩)]
  omega
theorem listT_spec : ∀ (t : Tr) (n : Nat) (X Y : Int), wfT (n : Int) t → Fine (listT t X Y) ∧ (∀ c ∈ listT t X Y, sqB X Y (p2 n) c = true) ∧ ∀ x y, lk (listT t X Y) x y = cellC t (x - X) (y - Y)
 | .e, _, _, _, _ => ⟨⟨fun c hc => absurd hc (List.not_mem_nil), List.Pairwise.nil⟩, fun c hc => absurd hc (List.not_mem_nil), fun x y => rfl⟩
 | .s k, n, X, Y, hw => by
  have hn : (n : Int) = 0 := hw.1
  have : n = 0 := by omega
  subst this
  refine ⟨⟨fun c hc => ?_, List.pairwise_singleton _ _⟩, fun c hc => ?_, fun x y => ?_⟩
  ·
   rw [List.mem_singleton.1 hc]
   exact ⟨hw.2.1, hw.2.2⟩
  ·
   rw [List.mem_singleton.1 hc, sq_iff, p2_zero]
   show X ≤ X ∧ X < X + 1 ∧ Y ≤ Y ∧ Y < Y + 1
   omega
  ·
   show (if X = x ∧ Y = y then k else 0) = if x - X = 0 ∧ y - Y = 0 then k else 0
   by_cases h : X = x ∧ Y = y
   ·
    rw [if_pos h, if_pos (by omega)]
   ·
    rw [if_neg h, if_neg (by omega)]
 | .n v a b c d, n, X, Y, hw => by
  obtain ⟨m, rfl, rfl, ha, hb, hc, hd, _⟩ := wf_n hw
  have hp := p2_pos m
  have ep := p2_succ m
  obtain ⟨fa, sa, ka⟩ := listT_spec a m X Y ha
  obtain ⟨fb, sb, kb⟩ := listT_spec b m (X + p2 m) Y hb
  obtain ⟨fc, sc, kc⟩ := listT_spec c m X (Y + p2 m) hc
  obtain ⟨fd, sd, kd⟩ := listT_spec d m (X + p2 m) (Y + p2 m) hd
  have e : ((m : Int) + 1).toNat - 1 = m := by omega
  have el : listT (.n ((m : Int) + 1) a b c d) X Y = listT a X Y ++ listT b (X + p2 m) Y ++ listT c X (Y + p2 m) ++ listT d (X + p2 m) (Y + p2 m) := by
   show listT a X Y ++ listT b (X + p2 (((m : Int) + 1).toNat - 1)) Y ++ listT c X (Y + p2 (((m : Int) + 1).toNat - 1)) ++ listT d (X + p2 (((m : Int) + 1).toNat - 1)) (Y + p2 (((m : Int) + 1).toNat - 1)) = _
   rw [e]
  rw [el]
  have apart : ∀ {l1 l2 : List Cl} {X1 Y1 X2 Y2 : Int}, (∀ c ∈ l1, sqB X1 Y1 (p2 m) c = true) → (∀ c ∈ l2, sqB X2 Y2 (p2 m) c = true) → (X1 + p2 m ≤ X2 ∨ X2 + p2 m ≤ X1 ∨ Y1 + p2 m ≤ Y2 ∨ Y2 + p2 m ≤ Y1) → ∀ c ∈ l1, ∀ d ∈ l2, ¬ (c.x = d.x ∧ c.y = d.y) := fun h1 h2 h3 c hc d hd e => by
   have a1 := sq_iff.1 (h1 c hc)
   have a2 := sq_iff.1 (h2 d hd)
   omega
  have outOf : ∀ {l2 : List Cl} {X1 Y1 X2 Y2 : Int}, (∀ c ∈ l2, sqB X2 Y2 (p2 m) c = true) → (X1 + p2 m ≤ X2 ∨ X2 + p2 m ≤ X1 ∨ Y1 + p2 m ≤ Y2 ∨ Y2 + p2 m ≤ Y1) → ∀ c ∈ l2, sqB X1 Y1 (p2 m) c = false := fun h2 h3 c hc => by
   have a2 := sq_iff.1 (h2 c hc)
   cases hq : sqB _ _ (p2 m) c
   ·
    rfl
   ·
    have := sq_iff.1 hq
    omega
  refine ⟨⟨fun q hq => ?_, ?_⟩, fun q hq => ?_, fun x y => ?_⟩
  ·
   rcases List.mem_append.1 hq with hq | hq
   ·
    rcases List.mem_append.1 hq with hq | hq
    ·
     rcases List.mem_append.1 hq with hq | hq
     ·
      exact fa.1 q hq
     ·
      exact fb.1 q hq
    ·
     exact fc.1 q hq
   ·
    exact fd.1 q hq
  ·
   rw [List.pairwise_append, List.pairwise_append, List.pairwise_append]
   refine ⟨⟨⟨fa.2, fb.2, apart sa sb (by omega)⟩, fc.2, fun q hq => ?_⟩, fd.2, fun q hq => ?_⟩
   ·
    rcases List.mem_append.1 hq with hq | hq
    ·
     exact apart sa sc (by omega) q hq
    ·
     exact apart sb sc (by omega) q hq
   ·
    rcases List.mem_append.1 hq with hq | hq
    ·
     rcases List.mem_append.1 hq with hq | hq
     ·
      exact apart sa sd (by omega) q hq
     ·
      exact apart sb sd (by omega) q hq
    ·
     exact apart sc sd (by omega) q hq
  ·
   rw [sq_iff, p2_succ]
   rcases List.mem_append.1 hq with hq | hq
   ·
    rcases List.mem_append.1 hq with hq | hq
    ·
     rcases List.mem_append.1 hq with hq | hq
     ·
      have := sq_iff.1 (sa q hq); omega
     ·
      have := sq_iff.1 (sb q hq); omega
    ·
     have := sq_iff.1 (sc q hq); omega
   ·
    have := sq_iff.1 (sd q hq); omega
  ·
   rw [List.append_assoc, List.append_assoc, lk_app_sq sa (fun q hq => by
    rcases List.mem_append.1 hq with hq | hq
    ·
     exact outOf sb (by omega) q hq
    ·
     rcases List.mem_append.1 hq with hq | hq
     ·
      exact outOf sc (by omega) q hq
     ·
      exact outOf sd (by omega) q hq), lk_app_sq sb (fun q hq => by
    rcases List.mem_append.1 hq with hq | hq
    ·
     exact outOf sc (by omega) q hq
    ·
     exact outOf sd (by omega) q hq), lk_app_sq sc (fun q hq => outOf sd (by omega) q hq), ka, kb, kc, kd, cell_q ha hb hc hd]
   rw [show x - (X + p2 m) = x - X - p2 m by omega, show y - (Y + p2 m) = y - Y - p2 m by omega]
   omega
end Go.Proofs.YtmfncapgikobkaaGreat

namespace Go.Proofs.YtmfncapgikobkaaGreat
set_option maxRecDepth 100000
set_option linter.unusedVariables false
set_option linter.unusedSimpArgs false
open Nds
theorem mem_of_lk : ∀ {l : List Cl} {x y : Int}, lk l x y ≠ 0 → ∃ c ∈ l, c.x = x ∧ c.y = y ∧ c.s = lk l x y
 | [], _, _, h => absurd rfl h
 | c :: l, x, y, h => by
  by_cases hc : c.x = x ∧ c.y = y
  ·
   exact ⟨c, by simp, hc.1, hc.2, by unfold lk; rw [if_pos hc]⟩
  ·
   have e : lk (c :: l) x y = lk l x y := by
    conv => lhs; unfold lk
    rw [if_neg hc]
   rw [e] at h ⊢
   obtain ⟨d, hd, h1⟩ := mem_of_lk h
   exact ⟨d, by simp [hd], h1⟩
theorem fine_lk : ∀ {l : List Cl}, l.Pairwise (fun a b => ¬ (a.x = b.x ∧ a.y = b.y)) → ∀ {c : Cl}, c ∈ l → lk l c.x c.y = c.s
 | a :: l, h, c, hc => by
  obtain ⟨h1, h2⟩ := List.pairwise_cons.1 h
  unfold lk
  rcases List.mem_cons.1 hc with rfl | hc
  ·
   rw [if_pos ⟨rfl, rfl⟩]
  ·
   rw [if_neg (h1 c hc), fine_lk h2 hc]
theorem fine_perm {l m : List Cl} (hl : Fine l) (hm : Fine m) (h : ∀ x y, lk l x y = lk m x y) : l.Perm m := by
 have nd : ∀ {l : List Cl}, Fine l → l.Nodup := fun h => h.2.imp fun {a b} h e => h ⟨congrArg Cl.x e, congrArg Cl.y e⟩
 have key : ∀ {l m : List Cl} {c : Cl}, Fine l → Fine m → (∀ x y, lk l x y = lk m x y) → c ∈ l → c ∈ m := fun {l m c} hl hm h hc => by
  have h1 := fine_lk hl.2 hc
  rw [h] at h1
  have h0 := (hl.1 c hc).1
  obtain ⟨d, hd, e1, e2, e3⟩ := mem_of_lk (l := m) (x := c.x) (y := c.y) (by rw [h1]; omega)
  have : c = d := Cl.ext' e1.symm e2.symm (by rw [e3, h1])
  rw [this]
  exact hd
 exact (List.perm_ext_iff_of_nodup (nd hl) (nd hm)).2 fun c => ⟨key hl hm h, key hm hl fun x y => (h x y).symm⟩
theorem lk_perm {l m : List Cl} (hl : l.Pairwise (fun a b => ¬ (a.x = b.x ∧ a.y = b.y))) (hm : m.Pairwise (fun a b => ¬ (a.x = b.x ∧ a.y = b.y))) (h : l.Perm m) (x y : Int) : lk l x y = lk m x y := by
 by_cases he : ∃ c ∈ l, c.x = x ∧ c.y = y
 ·
  obtain ⟨c, hc, rfl, rfl⟩ := he
  rw [fine_lk hl hc, fine_lk hm (h.mem_iff.1 hc)]
 ·
  rw [lk_none fun c hc e => he ⟨c, hc, e⟩, lk_none fun c hc e => he ⟨c, h.mem_iff.2 hc, e⟩]
theorem unlike_perm {l m : List Cl} (h : l.Perm m) (hl : l.Pairwise (fun a b => ¬ (a.x = b.x ∧ a.y = b.y))) : m.Pairwise (fun a b => ¬ (a.x = b.x ∧ a.y = b.y)) :=
 (h.pairwise_iff (fun {a b} h e => h ⟨e.1.symm, e.2.symm⟩)).1 hl
theorem lastS_unlike {l : List Cl} (h : l.Pairwise (fun a b => ¬ (a.x = b.x ∧ a.y = b.y))) (x y : Int) : lastS l x y = lk l x y := by
 suffices hk : ∀ k, k ≤ l.length → lastS (l.take k) x y = lk (l.take k) x y by
  have := hk l.length (Nat.le_refl _)
  rwa [List.take_of_length_le (Nat.le_refl _)] at this
 intro k
 induction k with
 | zero => exact fun _ => rfl
 | succ k ih =>
  intro hk
  rw [List.take_succ_eq_append_getElem (by omega), lastS_snoc, ih (by omega), lk_app]
  have hp : ∀ d ∈ l.take k, ¬ (d.x = l[k].x ∧ d.y = l[k].y) := fun d hd => by
   obtain ⟨i, hi, rfl⟩ := List.getElem_of_mem hd
   rw [List.length_take] at hi
   rw [List.getElem_take]
   exact List.pairwise_iff_getElem.1 h i k _ _ (by omega)
  by_cases hc : l[k].x = x ∧ l[k].y = y
  ·
   rw [if_pos hc, if_neg (fun ⟨d, hd, e⟩ => hp d hd ⟨e.1.trans hc.1.symm, e.2.trans hc.2.symm⟩)]
   unfold lk
   rw [if_pos hc]
  ·
   rw [if_neg hc]
   by_cases hd : ∃ d ∈ l.take k, d.x = x ∧ d.y = y
   ·
    rw [if_pos hd]
   ·
    rw [if_neg hd, lk_none fun d hd' e => hd ⟨d, hd', e⟩]
    unfold lk
    rw [if_neg hc]
    rfl
theorem lastF_srt (l : List Cl) : Srt (lastF l) := (lastF_spec l).1
theorem lastF_lk (l : List Cl) (x y : Int) : lk (lastF l) x y = lastS l x y := (lastF_spec l).2.1 x y
theorem lastF_eq {l m : List Cl} (hm : Srt m) (h0 : ∀ c ∈ m, c.s ≠ 0) (h : ∀ x y, lastS l x y = lk m x y) : lastF l = m :=
 srt_uniq (lastF_srt l) hm (fun c hc => ((lastF_spec l).2.2 c hc).1) h0 fun x y => by rw [lastF_lk, h]
theorem lastF_fine {l : List Cl} (h : ∀ c ∈ l, 0 ≤ c.s ∧ c.s ≤ 255) : Fine (lastF l) :=
 srt_fine (lastF_srt l) fun c hc => by
  obtain ⟨h1, h2⟩ := (lastF_spec l).2.2 c hc
  have := h c h2
  omega
theorem lastF_len {l : List Cl} (h : Fine l) : (lastF l).length = l.length :=
 (fine_perm (lastF_fine fun c hc => by have := h.1 c hc; omega) h fun x y => by rw [lastF_lk, lastS_unlike h.2]).length_eq
theorem srt_unlike {l : List Cl} (h : Srt l) : l.Pairwise (fun a b => ¬ (a.x = b.x ∧ a.y = b.y)) := h.imp fun h => ltC_ne h
def QuadOf (L : List Cl) (out : List Nd) : Prop :=
 ∃ (t : Tr) (n : Nat), wfT (n : Int) t ∧ (∀ k, t ≠ .s k) ∧ holT t = false ∧ out = (enc t []).1 ∧ ∀ x y, cellM t x y = lk L x y
theorem quadOf_one {L M : List Cl} {a b : List Nd} (h : QuadOf L a) (k : QuadOf M b) (e : ∀ x y, lk L x y = lk M x y) : a = b := by
 obtain ⟨t, n, h1, h2, h3, rfl, h5⟩ := h
 obtain ⟨u, m, k1, k2, k3, rfl, k5⟩ := k
 rw [cells_one h1 k1 h2 k2 h3 k3 fun x y => by rw [h5, k5, e]]
theorem QuadOf.of {L M : List Cl} {a : List Nd} (h : QuadOf L a) (e : ∀ x y, lk L x y = lk M x y) : QuadOf M a := by
 obtain ⟨t, n, h1, h2, h3, h4, h5⟩ := h
 exact ⟨t, n, h1, h2, h3, h4, fun x y => by rw [h5, e]⟩
theorem nat_wf {t : Tr} {v : Int} (hw : wfT v t) (hs : ∀ k, t ≠ .s k) : ∃ q : Nat, wfT (q : Int) t := by
 cases t with
 | e => exact ⟨0, trivial⟩
 | s k => exact absurd rfl (hs k)
 | n u a b c d =>
  have h1 := hw.1
  have h2 := hw.2.1
  exact ⟨v.toNat, by rwa [show ((v.toNat : Nat) : Int) = v by omega]⟩
theorem ofL_quadOf {l : List Nd} (hl : looseB l = true) {n : Nat} (hn : n ≤ l.length) {L : List Cl} (h : ∀ x y, cellM (den l n) x y = lk L x y) : QuadOf L (OfL l n) := by
 obtain ⟨v, h1, h2, h3⟩ := ofL_tree hl hn
 obtain ⟨q, hq⟩ := nat_wf h1 h2
 obtain ⟨u, hu⟩ := wf_denn hl hn
 obtain ⟨p, hp⟩ := nat_wf hu (fun k => den_not_s)
 exact ⟨_, q, hq, h2, h3, rfl, fun x y => by rw [shr_cells hp]; exact h x y⟩
theorem QuadOf.good {L : List Cl} {out : List Nd} (h : QuadOf L out) : GoodL out := by
 obtain ⟨t, n, h1, h2, h3, rfl, h5⟩ := h
 exact (enc_spec _ _ [] h1 good_nil).good
theorem QuadOf.quad {L : List Cl} {out : List Nd} (h : QuadOf L out) : quadB out = true := by
 obtain ⟨t, n, h1, h2, h3, rfl, h5⟩ := h
 exact quad_of_tree h1 h2 h3
theorem QuadOf.den {L : List Cl} {out : List Nd} (h : QuadOf L out) (x y : Int) : cellM (den out out.length) x y = lk L x y := by
 obtain ⟨t, n, h1, h2, h3, rfl, h5⟩ := h
 rw [← h5]
 by_cases he : t = .e
 ·
  subst he
  show cellM (Nds.den [] 0) x y = _
  rw [den_zero]
 ·
  rw [(enc_root h1 he h2).2.2]
def cornL (l : List Nd) : List Cl := listT (den l l.length) (-(p2 ((at_ l (l.length - 1)).lv.toNat - 1))) (-(p2 ((at_ l (l.length - 1)).lv.toNat - 1)))
theorem corn_spec {l : List Nd} (hl : looseB l = true) : Fine (cornL l) ∧ ∀ x y, lk (cornL l) x y = cellM (den l l.length) x y := by
 unfold cornL
 rcases Nat.eq_zero_or_pos l.length with h0 | h0
 ·
  rw [h0, den_zero]
  exact ⟨⟨fun c hc => absurd hc (List.not_mem_nil), List.Pairwise.nil⟩, fun x y => rfl⟩
 ·
  obtain ⟨p, hp⟩ : ∃ p, l.length = p + 1 := ⟨l.length - 1, by omega⟩
  rw [hp, Nat.add_sub_cancel]
  have hw := wf_den hl p (by omega)
  have hv := fit_lv (loose_fit hl (i := p) (by omega))
  obtain ⟨n, hn⟩ : ∃ n : Nat, (at_ l p).lv = (n : Int) := ⟨_, (Int.toNat_of_nonneg (by omega)).symm⟩
  rw [hn] at hw ⊢
  rw [Int.toNat_natCast]
  obtain ⟨h1, h2, h3⟩ := listT_spec (den l (p + 1)) n (-(p2 (n - 1))) (-(p2 (n - 1))) hw
  refine ⟨h1, fun x y => ?_⟩
  rw [h3]
  unfold cellM
  generalize den l (p + 1) = t at hw
  cases t with
  | e => rfl
  | s k =>
   have := hw.1
   omega
  | n v a b c d =>
   have e : v = (n : Int) := hw.1.symm
   subst e
   show cellC _ _ _ = cellC _ (x + p2 ((n : Int).toNat - 1)) (y + p2 ((n : Int).toNat - 1))
   rw [Int.toNat_natCast, show x - -(p2 (n - 1)) = x + p2 (n - 1) by omega, show y - -(p2 (n - 1)) = y + p2 (n - 1) by omega]
def cellsL (l : List Nd) : List Cl := lastF (cornL l)
theorem cells_lk {l : List Nd} (hl : looseB l = true) (x y : Int) : lk (cellsL l) x y = cellM (den l l.length) x y := by
 unfold cellsL
 rw [lastF_lk, lastS_unlike (corn_spec hl).1.2, (corn_spec hl).2]
theorem cells_srt (l : List Nd) : Srt (cellsL l) := lastF_srt _
theorem cells_fine {l : List Nd} (hl : looseB l = true) : Fine (cellsL l) := lastF_fine fun c hc => by
 have := (corn_spec hl).1.1 c hc
 omega
theorem cells_len {l : List Nd} (hl : looseB l = true) : (cellsL l).length = countT (den l l.length) := by
 unfold cellsL
 rw [lastF_len (corn_spec hl).1]
 unfold cornL
 exact listT_len _ _ _
theorem QuadOf.cells {L : List Cl} {out : List Nd} (h : QuadOf L out) (hs : Srt L) (h0 : ∀ c ∈ L, c.s ≠ 0) : cellsL out = L :=
 srt_uniq (cells_srt out) hs (fun c hc => by have := (cells_fine h.good.1).1 c hc; omega) h0 fun x y => by rw [cells_lk h.good.1, h.den]
theorem quadOf_self {l : List Nd} (hl : looseB l = true) : QuadOf (cellsL l) (OfL l l.length) := ofL_quadOf hl (Nat.le_refl _) fun x y => (cells_lk hl x y).symm
theorem countT_le : ∀ (t : Tr) (n : Nat), wfT (n : Int) t → countT t ≤ 4 ^ n
 | .e, n, _ => Nat.zero_le _
 | .s k, n, h => by
  have : (n : Int) = 0 := h.1
  obtain rfl : n = 0 := by omega
  exact Nat.le_refl 1
 | .n v a b c d, n, h => by
  obtain ⟨m, rfl, rfl, ha, hb, hc, hd, _⟩ := wf_n h
  have h1 := countT_le a m ha
  have h2 := countT_le b m hb
  have h3 := countT_le c m hc
  have h4 := countT_le d m hd
  show countT a + countT b + countT c + countT d ≤ 4 ^ (m + 1)
  rw [Nat.pow_succ]
  omega
end Go.Proofs.YtmfncapgikobkaaGreat

namespace Go.Proofs.YtmfncapgikobkaaGreat
set_option maxRecDepth 100000
set_option linter.unusedVariables false
set_option linter.unusedSimpArgs false
open Nds Num
theorem countT_mk (v : Int) (a b c d : Tr) : countT (mk v a b c d) = countT a + countT b + countT c + countT d := by
 unfold mk
 split
 ·
  rename_i h
  obtain ⟨rfl, rfl, rfl, rfl⟩ := allE_iff.1 h
  rfl
 ·
  rfl
def cntK (l : List Nd) (x : Nd) : Nat → Nat
 | 0 => 0
 | j + 1 => cntK l x j + countT (kidT (dens l) x.lv (x.kid j))
theorem cntK_four (l : List Nd) (x : Nd) : cntK l x 4 = countT (norm (dens l) x) := by
 unfold norm
 rw [countT_mk]
 show 0 + countT (kidT (dens l) x.lv x.a) + countT (kidT (dens l) x.lv x.b) + countT (kidT (dens l) x.lv x.c) + countT (kidT (dens l) x.lv x.d) = _
 omega
theorem cntK_den {l : List Nd} (h : looseB l = true) {i : Nat} (hi : i < l.length) : cntK l (at_ l i) 4 = countT (den l (i + 1)) := by
 rw [cntK_four, den_loose h hi]
theorem cntK_mono (l : List Nd) (x : Nd) : ∀ (d j : Nat), cntK l x j ≤ cntK l x (j + d)
 | 0, j => Nat.le_refl _
 | d + 1, j => Nat.le_trans (cntK_mono l x d j) (by rw [show j + (d + 1) = (j + d) + 1 by omega]; exact Nat.le_add_right _ _)
theorem count_small {l : List Nd} (h : looseB l = true) {i : Nat} (hi : i ≤ l.length) {M : Nat} (hM : M = 1329) : countT (den l i) ≤ 4 ^ M := by
 cases i with
 | zero => rw [den_zero]; exact Nat.zero_le _
 | succ p =>
  have hw := wf_den h p (by omega)
  have hv := fit_lv (loose_fit h (i := p) (by omega))
  obtain ⟨n, hn⟩ : ∃ n : Nat, (at_ l p).lv = (n : Int) := ⟨_, (Int.toNat_of_nonneg (by omega)).symm⟩
  rw [hn] at hw
  exact Nat.le_trans (countT_le _ n hw) (Nat.pow_le_pow_right (by decide) (by omega))
theorem cntK_small {l : List Nd} (h : looseB l = true) {i : Nat} (hi : i < l.length) {j : Nat} (hj : j ≤ 4) {M : Nat} (hM : M = 1329) : cntK l (at_ l i) j ≤ 4 ^ M := by
 have h1 := cntK_mono l (at_ l i) (4 - j) j
 rw [show j + (4 - j) = 4 by omega, cntK_den h hi] at h1
 exact Nat.le_trans h1 (count_small h (by omega) hM)
theorem count_len {s : Bool} {xs : List Nat} {m : Nat} (hc : CanonI s xs) (hv : ival s xs = (m : Int)) {M : Nat} (hM : M = 1329) (hm : m ≤ 4 ^ M) : xs.length ≤ 100 := by
 refine len_ival hc hv 100 ?_
 obtain ⟨K, hK⟩ : ∃ K, K = 100 := ⟨_, rfl⟩
 rw [← hK, Int.natAbs_natCast, show (4294967296 : Nat) = 2 ^ 32 by decide, ← Nat.pow_mul]
 rw [show (4 : Nat) = 2 ^ 2 by decide, ← Nat.pow_mul] at hm
 exact Nat.lt_of_le_of_lt hm (Nat.pow_lt_pow_right (by decide) (by omega))
theorem kid_none (l : List Nd) (v : Int) : kidT (dens l) v 0 = .e := by
 by_cases h : v = 1
 ·
  subst h
  rfl
 ·
  rw [kidT_den h]
  exact den_zero l
theorem kid_leaf (l : List Nd) {k : Int} (h : 1 ≤ k) : kidT (dens l) 1 k = .s k := by
 rw [kidT_one]
 unfold st
 rw [if_neg (by omega)]
theorem kid_den (l : List Nd) {v : Int} (h : v ≠ 1) (q : Nat) : kidT (dens l) v ((q : Int) + 1) = den l (q + 1) := by
 rw [kidT_den h, show ((q : Int) + 1).toNat = q + 1 by omega]
end Go.Proofs.YtmfncapgikobkaaGreat

namespace Go.Proofs.YtmfncapgikobkaaGreat
set_option maxRecDepth 100000
set_option linter.unusedVariables false
set_option linter.unusedSimpArgs false
open Go.RowKit Nds Num
structure CoW (w : World) (A : Option Addr) (c n : Nat) (l : List Nd) (gr : Nat) (L : List Gv) (k : Nat) (s : Bool) (B : Option Addr) (d : Nat) (xs : List Nat) (m : Int) (W : World) : Prop where
 b : Below w.heap.size w W
 q : W.heap[w.heap.size]? = some (.cells #[.slice A n c] 27)
 r : W.heap[w.heap.size + 1]? = some (.cells #[.bool false, .slice none 0 0] 42)
 ct : HX W (w.heap.size + 1 + 1) s B d xs m
 row : OwnG W w.heap.size gr n L
 gl : w.heap.size + 1 + 1 < gr
 fine : ∀ j, j < k → GIn W (gat L j) (countT (den l (j + 1)))
theorem CoW.next {w : World} {A : Option Addr} {c n : Nat} {l : List Nd} {gr : Nat} {L : List Gv} {k : Nat} {s : Bool} {B : Option Addr} {d : Nat} {xs : List Nat} {m : Int} {W W1 : World} (h : CoW w A c n l gr L k s B d xs m W) (g : Below W.heap.size W W1) : CoW w A c n l gr L k s B d xs m W1 :=
 ⟨h.b.trans (g.mono h.b.size), (g.block _ (by have := h.ct.lt; omega)).trans h.q, (g.block _ (by have := h.ct.lt; omega)).trans h.r, h.ct.next g, h.row.next g, h.gl, fun j hj => (h.fine j hj).next g⟩
theorem setC_two (w : World) (g o p : Nat) (a b : Value) : w.grownBy ((w.setCell ⟨g, o, none⟩ a).setCell ⟨g, p, none⟩ b) (some g) := gb_two (setC_one w g o a) (setC_one _ g p b)
theorem CoW.set {w : World} {A : Option Addr} {c n : Nat} {l : List Nd} {gr : Nat} {L : List Gv} {k : Nat} {s : Bool} {B : Option Addr} {d : Nat} {xs : List Nat} {m : Int} {W : World} (h : CoW w A c n l gr L k s B d xs m W)
  {s2 : Bool} {A2 : Option Addr} {c2 : Nat} {ys : List Nat} {m2 : Int} (hu : Us W A2 c2 ys) (hc : CanonI s2 ys) (hv : ival s2 ys = m2) :
  CoW w A c n l gr L k s2 A2 c2 ys m2 ((W.setCell ⟨w.heap.size + 1 + 1, 0, none⟩ (.bool s2)).setCell ⟨w.heap.size + 1 + 1, 1, none⟩ (.slice A2 ys.length c2)) := by
 have hg := setC_two W (w.heap.size + 1 + 1) 0 1 (.bool s2) (.slice A2 ys.length c2)
 have hlt := h.ct.lt
 have hgl := h.gl
 exact ⟨h.b.grown hg h.b.size (fun q e => by cases e; omega), (hg.block _ (by omega) (by simp; omega)).trans h.q, (hg.block _ (by omega) (by simp)).trans h.r, h.ct.set hu hc hv, h.row.kept hg (by simp; omega), h.gl, fun j hj => (h.fine j hj).over (bool_cell h.ct.box) hg⟩
theorem CoW.put {w : World} {A : Option Addr} {c n : Nat} {l : List Nd} {gr : Nat} {L : List Gv} {k : Nat} {s : Bool} {B : Option Addr} {d : Nat} {xs : List Nat} {m : Int} {W : World} (h : CoW w A c n l gr L k s B d xs m W) (hk : k < n) (hm : m = countT (den l (k + 1))) :
  CoW w A c n l gr (L.set k ⟨s, B, d, xs⟩) (k + 1) s B d xs m ((W.setCell ⟨gr, k * 2, none⟩ (.bool s)).setCell ⟨gr, k * 2 + 1, none⟩ (.slice B xs.length d)) := by
 have hg := setC_two W gr (k * 2) (k * 2 + 1) (.bool s) (.slice B xs.length d)
 have hlt := h.ct.lt
 have hgl := h.gl
 obtain ⟨r1, r2, r3, r4, r5⟩ := h.row.row
 have hct : HX ((W.setCell ⟨gr, k * 2, none⟩ (.bool s)).setCell ⟨gr, k * 2 + 1, none⟩ (.slice B xs.length d)) (w.heap.size + 1 + 1) s B d xs m :=
  ⟨(hg.block _ (by omega) (by simp; omega)).trans h.ct.box, us_kept h.ct.us (fun q h1 h2 => hg.block q h1 (fun e => h2 (by cases e; rfl))) hg.size (us_off h.ct.us r5), h.ct.cn, h.ct.v, h.ct.off⟩
 refine ⟨h.b.grown hg h.b.size (fun q e => by cases e; exact r1), (hg.block _ (by omega) (by simp; omega)).trans h.q, (hg.block _ (by omega) (by simp; omega)).trans h.r, hct, h.row.put hk ⟨s, B, d, xs⟩, h.gl, fun j hj => ?_⟩
 by_cases hjk : k = j
 ·
  subst hjk
  rw [gat_set_same (by rw [h.row.1]; exact hk)]
  exact ⟨hct.us, hct.cn, hct.v.trans hm⟩
 ·
  rw [gat_set_ne hjk]
  exact (h.fine j (by omega)).over r5 hg
set_option maxRecDepth 100000 in
set_option maxHeartbeats 3200000 in
theorem count_any (A : Option Addr) (c n : Nat) (l : List Nd) (w : World) (h : Ns w A c l) (hn : l.length = n) (hl : looseB l = true) (hn9 : n ≤ 900000) :
  Calls Tryz.prog 18 #[.agg #[.slice A n c]] w (RetI (countT (den l n) : Nat) w) := by
 have hcap := h.cap
 rw [hn] at hcap
 obtain ⟨M, hM⟩ : ∃ M, M = 1329 := ⟨_, rfl⟩
 have HM := Lib.hid hM
 have hlenOf : ∀ {s : Bool} {xs : List Nat} {m : Nat}, CanonI s xs → ival s xs = (m : Int) → m ≤ 4 ^ M → xs.length ≤ 100 := fun hc hv hm => count_len hc hv HM.out hm
 clear hM
 obtain ⟨i0, hi, hz0, hz1, hz2⟩ := info_parts Tryz.infoG
 have HI := Lib.hid (And.intro hi (And.intro hz0 (And.intro hz1 hz2)))
 obtain ⟨W, hW⟩ : ∃ W : World, W = ((w.alloc (.cells #[.slice A n c] 27)).alloc (.cells #[.bool false, .slice none 0 0] 42)).alloc (.cells #[.bool false, .slice none 0 0] 42) := ⟨_, rfl⟩
 have hb : Below w.heap.size w W := by rw [hW]; exact (((Below.refl _ w).alloc (Nat.le_refl _) _).alloc (by simp) _).alloc (by simp; omega) _
 have b1 : (w.alloc (.cells #[.slice A n c] 27)).heap[w.heap.size]? = some (.cells #[.slice A n c] 27) := heap_alloc_new w _
 have b2 := heap_alloc_new (w.alloc (.cells #[.slice A n c] 27)) (.cells #[.bool false, .slice none 0 0] 42)
 have b3 := heap_alloc_new ((w.alloc (.cells #[.slice A n c] 27)).alloc (.cells #[.bool false, .slice none 0 0] 42)) (.cells #[.bool false, .slice none 0 0] 42)
 rw [← hW] at b3
 have hQ : W.heap[w.heap.size]? = some (.cells #[.slice A n c] 27) := by rw [hW]; exact (Below.heap_alloc _ _ _ (by simp; omega)).trans ((Below.heap_alloc _ _ _ (by simp)).trans b1)
 have hR : W.heap[w.heap.size + 1]? = some (.cells #[.bool false, .slice none 0 0] 42) := by
  rw [show (w.alloc (.cells #[.slice A n c] 27)).heap.size = w.heap.size + 1 by simp] at b2
  rw [hW]; exact (Below.heap_alloc _ _ _ (by simp)).trans b2
 have hC : W.heap[w.heap.size + 1 + 1]? = some (.cells #[.bool false, .slice none 0 0] 42) := by
  rw [show ((w.alloc (.cells #[.slice A n c] 27)).alloc (.cells #[.bool false, .slice none 0 0] 42)).heap.size = w.heap.size + 1 + 1 by simp] at b3
  exact b3
 have hsz : W.heap.size = w.heap.size + 1 + 1 + 1 := by rw [hW]; simp
 have hcz : HX W (w.heap.size + 1 + 1) false none 0 [] 0 := ⟨hC, Us.nil W, ⟨canon_nil, fun e => by cases e⟩, rfl, fun h => by simp at h⟩
 have g0 := one_cell hQ
 have HQ := Lib.hid hQ
 have HR := Lib.hid hR
 have HC := Lib.hid hcz
 have HB := Lib.hid hb
 have HZ := Lib.hid hsz
 have HN := Lib.hid h
 have HL := Lib.hid hn
 have HLL := Lib.hid hl
 have HW := Lib.hid hW
 rw [hW] at g0
 clear h hn hl hi hz0 hz1 hz2 hQ hR hC hcz hb hsz hW b1 b2 b3
 go_enter Tryz.func18, Tryz.ntmps18
 go_wp2_with (first
  | (at_make; go_loud (rw [← HW.out]; refine wpList_make_full _ rfl _ _ 82 rfl w.heap.size 42 i0 _ 2 Tryz.underlying82 HI.out.1 HI.out.2.1 HI.out.2.2.1 .i64 .i64 _ _ n rfl rfl (by omega) (by omega) (by rw [HI.out.2.2.2]; omega) (by unfold maxLen; omega) HB.out.size ?_; intro w0 hown0 hgrow0; have hb0 : Below W.heap.size W w0 := (Below.refl _ _).grown hgrow0 (Nat.le_refl _) (fun k hk => by cases hk); have g1 := one_cell ((hb0.block w.heap.size (by have := HZ.out; omega)).trans HQ.out); have own0 := Lib.hid (OwnG.made hown0); have HB0 := Lib.hid hb0; clear hown0 hgrow0 hb0)))
 have S0 := Lib.hid (show CoW w A c n l W.heap.size (List.replicate n gv0) 0 false none 0 [] 0 w0 from
  ⟨HB.out.trans (HB0.out.mono HB.out.size), (HB0.out.block _ (by have := HZ.out; omega)).trans HQ.out, (HB0.out.block _ (by have := HZ.out; omega)).trans HR.out, HC.out.next HB0.out,
   ⟨own0.out.1, own0.out.2⟩, by have := HZ.out; omega, fun j hj => by omega⟩)
 obtain ⟨gr, hgr⟩ : ∃ g, g = W.heap.size := ⟨_, rfl⟩
 rw [← hgr] at S0 ⊢
 clear hgr own0 g0 g1
 go_loopw [16] (fun z wr => ∃ (k : Nat) (L : List Gv) (s : Bool) (B : Option Addr) (d : Nat) (xs : List Nat), k ≤ n ∧ z = .int .i64 k ∧ CoW w A c n l gr L k s B d xs (countT (den l k) : Nat) wr) (fun z _ => n - (intOf z).toNat)
 case atStart => exact ⟨0, _, _, _, _, _, Nat.zero_le _, rfl, by rw [den_zero]; exact S0.out⟩
 case round =>
  obtain ⟨k, L, s, B, d, xs, hk, rfl, R⟩ := hrel
  have RR := Lib.hid R
  have q0 := R.ct.c0
  have q1 := R.ct.c1
  have q2 := R.ct.free 0
  have q3 := R.ct.free 1
  have hdc := R.ct.us.cap
  by_cases hlt : k < n
  ·
   have i1 : (k : Int) < (n : Int) := by omega
   have i2 : (0 : Int) ≤ (k : Int) := by omega
   have t1 : decide ((k : Int) < (n : Int)) = true := decide_eq_true i1
   obtain ⟨b, off, rfl, hbl, hcl⟩ := (HN.out.below R.b).at_ (by rw [HL.out]; omega)
   obtain ⟨c1_, c2_, c3_, c4_, c5_⟩ := hcl k (by rw [HL.out]; exact hlt)
   have hfx := Lib.hid (loose_iff.1 HLL.out k (by rw [HL.out]; exact hlt))
   obtain ⟨x, hx⟩ : ∃ x, x = at_ l k := ⟨_, rfl⟩
   rw [← hx] at c1_ c2_ c3_ c4_ c5_ hfx
   have hxv := fit_lv hfx.out
   have HX_ := Lib.hid hx
   clear hx hcl R
   have n1 := cell_alloc_l (.cells #[.int .i64 x.lv, .int .i64 x.a, .int .i64 x.b, .int .i64 x.c, .int .i64 x.d] 56) q0
   have n2 := cell_alloc_l (.cells #[.int .i64 x.lv, .int .i64 x.a, .int .i64 x.b, .int .i64 x.c, .int .i64 x.d] 56) q1
   have n3 := frozen_alloc_l (.cells #[.int .i64 x.lv, .int .i64 x.a, .int .i64 x.b, .int .i64 x.c, .int .i64 x.d] 56) q0 q2
   have n4 := frozen_alloc_l (.cells #[.int .i64 x.lv, .int .i64 x.a, .int .i64 x.b, .int .i64 x.c, .int .i64 x.d] 56) q1 q3
   have n5 := World.new_ne wr _ q0
   go_wp2_with fail
   have hba : Below wr.heap.size wr (wr.alloc (.cells #[.int .i64 x.lv, .int .i64 x.a, .int .i64 x.b, .int .i64 x.c, .int .i64 x.d] 56)) := (Below.refl _ wr).alloc (Nat.le_refl _) _
   have S1 := Lib.hid ((RR.out.next hba).set (Us.nil _) ⟨canon_nil, fun e => by cases e⟩ (show ival false [] = ((0 : Nat) : Int) from rfl))
   have hbx := NdBox.new wr x
   have hlt2 := RR.out.ct.lt
   obtain ⟨bn, hbn⟩ : ∃ b, b = wr.heap.size := ⟨_, rfl⟩
   rw [← hbn] at hbx hlt2 ⊢
   have N1 := Lib.hid (hbx.stay ((setC_two _ (w.heap.size + 1 + 1) 0 1 (.bool false) (.slice none 0 0)).block bn hbx.lt (by simp; omega)))
   have HLT := Lib.hid hlt2
   have HK := Lib.hid hlt
   clear hba hbx hlt2 hbn n1 n2 n3 n4 n5 q0 q1 q2 q3 c1_ c2_ c3_ c4_ c5_ hbl hlt
   go_loopw [24] (fun z wi => ∃ (j : Nat) (s : Bool) (B : Option Addr) (d : Nat) (xs : List Nat), j ≤ 4 ∧ z = .int .i64 j ∧ CoW w (some ⟨b, off, none⟩) c n l gr L k s B d xs (cntK l x j : Nat) wi ∧ NdBox wi bn x) (fun z _ => 4 - (intOf z).toNat)
   case atStart => exact ⟨0, _, _, _, _, by omega, rfl, S1.out, N1.out⟩
   case round =>
    obtain ⟨j, s, B, d, xs, hj, rfl, R, hnb⟩ := hrel
    have RI := Lib.hid R
    have NB := Lib.hid hnb
    have q0 := R.ct.c0
    have q1 := R.ct.c1
    have q2 := R.ct.free 0
    have q3 := R.ct.free 1
    have hdc := R.ct.us.cap
    obtain ⟨k0, -, -, -, -⟩ := hnb.at_
    have hlen := hlenOf R.ct.cn R.ct.v (HX_.out ▸ cntK_small HLL.out (show k < l.length by rw [HL.out]; exact HK.out) hj HM.out)
    clear R hnb
    by_cases hlt : j < 4
    ·
     have hi := index4 x j hlt
     have hfk := fit_kid hfx.out hlt
     obtain ⟨y, hy⟩ : ∃ y, y = x.kid j := ⟨_, rfl⟩
     rw [← hy] at hi hfk
     have HY := Lib.hid hy
     have HFK := Lib.hid hfk
     clear hy hfk
     by_cases hy0 : y = 0
     ·
      subst hy0
      have HS := Lib.hid (show cntK l x (j + 1) = cntK l x j by show cntK l x j + countT (kidT (dens l) x.lv (x.kid j)) = _; rw [← HY.out, kid_none]; rfl)
      go_wp2_with fail
      go_roundw
      case rel => exact ⟨j + 1, s, B, d, xs, by omega, by go_num, by rw [HS.out]; exact RI.out, NB.out⟩
      case measure => simp [intOf]; omega
     ·
      have t0 : (y == 0) = false := beq_eq_false_iff_ne.2 hy0
      have HY0 := Lib.hid hy0
      clear hy0
      by_cases hv : x.lv = 1
      ·
       have t1 : (x.lv == 1) = true := by rw [hv]; rfl
       have HV := Lib.hid hv
       clear hv
       have st : Below wr.heap.size wr wr.drew := below_drewN (Below.refl _ wr) 1
       have ST := Lib.hid st
       have HS := Lib.hid (show cntK l x (j + 1) = cntK l x j + 1 by
        show cntK l x j + countT (kidT (dens l) x.lv (x.kid j)) = _
        have h1 := HFK.out
        rw [HV.out, kidB_one, decide_eq_true_iff] at h1
        rw [← HY.out, HV.out, kid_leaf l (by have := HY0.out; omega)]
        rfl)
       clear st
       go_wp2_with fail
       go_region_with (first
         | (go_at_call 49; go_loud (refine (bof_any 1 _ (by decide) (by decide)).mono ?_; rintro e w5 ⟨A5, c5, s5, r5, rfl, u5, k5, v5, b5⟩; have R5 := (RI.out.next ST.out).next b5; have q0 := R5.ct.c0; have q1 := R5.ct.c1; have HR5 := Lib.hid R5; have U5 := Lib.hid u5; have HV5 := Lib.hid v5; have hl5 : r5.length ≤ 60000 := Nat.le_trans (len_ival k5 v5 1 (by decide)) (by decide); clear R5 u5 v5))
         | (go_at_call 48; go_loud (refine (badd_any s s5 _ _ _ _ xs r5 _ HR5.out.ct.us U5.out (by omega) hl5).mono ?_; rintro e w6 ⟨A6, c6, s6, r6, rfl, u6, k6, v6, b6⟩; have R6 := HR5.out.next b6; have q0 := R6.ct.c0; have q1 := R6.ct.c1; have q2 := R6.ct.free 0; have q3 := R6.ct.free 1; have HR6 := Lib.hid R6; have HB6 := Lib.hid (b5.trans (b6.mono b5.size)); have U6 := Lib.hid u6; have K6 := Lib.hid k6; have HV6 := Lib.hid v6; clear R6 u6 k6 v6)))
       all_goals
        go_wp2_with fail
        go_roundw
        case rel =>
         refine ⟨j + 1, s6, A6, c6, r6, by omega, by go_num, HR6.out.set U6.out K6.out ?_, NB.out.stay ?_⟩
         ·
          rw [HV6.out, HV5.out, RI.out.ct.v, HS.out]
          omega
         ·
          have h1 := HLT.out
          exact ((setC_two w6 (w.heap.size + 1 + 1) 0 1 (.bool s6) (.slice A6 r6.length c6)).block bn (Nat.lt_of_lt_of_le NB.out.lt HB6.out.size) (by simp; omega)).trans (HB6.out.block bn NB.out.lt)
        case measure => simp [intOf]; omega
      ·
       have t1 : (x.lv == 1) = false := beq_eq_false_iff_ne.2 hv
       have HV := Lib.hid hv
       obtain ⟨q, rfl, hq, hql⟩ : ∃ q : Nat, y = (q : Int) + 1 ∧ q < k ∧ True := by
        rcases kid_up hv HFK.out with h | ⟨q, h1, h2, _⟩
        ·
         exact absurd h HY0.out
        ·
         exact ⟨q, h1, by have := List.length_take_le k l; omega, trivial⟩
       clear hql hv
       have st : Below wr.heap.size wr wr.drew := below_drewN (Below.refl _ wr) 1
       have ST := Lib.hid st
       have HS := Lib.hid (show cntK l x (j + 1) = cntK l x j + countT (den l (q + 1)) by
        show cntK l x j + countT (kidT (dens l) x.lv (x.kid j)) = _
        rw [← HY.out, kid_den l HV.out])
       have hG := Lib.hid (((RI.out.next ST.out).fine q hq))
       have hGl := hlenOf hG.out.cn hG.out.v (count_small HLL.out (show q + 1 ≤ l.length by have := HL.out; have := HK.out; omega) HM.out)
       obtain ⟨r1, r2, r3, r4, r5⟩ := RI.out.row.row
       obtain ⟨a1, a2⟩ := r3 q (by have := HK.out; omega)
       obtain ⟨g, hg⟩ : ∃ g, g = gat L q := ⟨_, rfl⟩
       rw [← hg] at a1 a2 hG hGl
       have hgc := hG.out.us.cap
       have i3 : (0 : Int) ≤ (q : Int) := by omega
       have i4 : (q : Int) < (n : Int) := by have := HK.out; omega
       have i5 : IntKind.i64.wrap ((q : Int) + 1 - 1) = (q : Int) := by rw [show (q : Int) + 1 - 1 = (q : Int) by omega]; simp [IntKind.wrap, IntKind.bits, IntKind.signed]; omega
       have i6 : IntKind.i64.wrap (q : Int) = (q : Int) := by simp [IntKind.wrap, IntKind.bits, IntKind.signed]; omega
       clear hg st r1 r2 r3 r4 r5
       go_wp2_with fail
       go_still_tail 6, (by kernel_rfl)
       change wpList _ _ _ _ _ wr.drew
       go_wp2_with (go_at_call 48; go_loud (refine (badd_any s g.s _ _ _ _ xs g.xs _ (RI.out.next ST.out).ct.us hG.out.us (by omega) (by omega)).mono ?_; rintro e w6 ⟨A6, c6, s6, r6, rfl, u6, k6, v6, b6⟩; have R6 := (RI.out.next ST.out).next b6; have q0 := R6.ct.c0; have q1 := R6.ct.c1; have q2 := R6.ct.free 0; have q3 := R6.ct.free 1; have HR6 := Lib.hid R6; have HB6 := Lib.hid b6; have U6 := Lib.hid u6; have K6 := Lib.hid k6; have HV6 := Lib.hid v6; clear R6 u6 k6 v6 b6))
       go_roundw
       case rel =>
        refine ⟨j + 1, s6, A6, c6, r6, by omega, by go_num, HR6.out.set U6.out K6.out ?_, NB.out.stay ?_⟩
        ·
         rw [HV6.out, RI.out.ct.v, hG.out.v, HS.out]
         omega
        ·
         have h1 := HLT.out
         exact ((setC_two w6 (w.heap.size + 1 + 1) 0 1 (.bool s6) (.slice A6 r6.length c6)).block bn (Nat.lt_of_lt_of_le NB.out.lt HB6.out.size) (by simp; omega)).trans (HB6.out.block bn NB.out.lt)
       case measure => simp [intOf]; omega
    ·
     obtain rfl : j = 4 := by omega
     have HS := Lib.hid (show cntK l x 4 = countT (den l (k + 1)) by rw [HX_.out, cntK_den HLL.out (by rw [HL.out]; exact HK.out)])
     obtain ⟨r1, r2, r3, r4, r5⟩ := RI.out.row.row
     obtain ⟨a1, a2⟩ := r3 k HK.out
     have a3 := r4 (k * 2)
     have a4 := r4 (k * 2 + 1)
     have i3 : (0 : Int) ≤ (k : Int) := by omega
     clear hj hlt r1 r2 r3 r4 r5
     go_wp2_with fail
     go_roundw
     case rel =>
      have h1 := RI.out.put HK.out (by rw [HS.out])
      exact ⟨k + 1, _, _, _, _, _, HK.out, by go_num, by rw [← HS.out]; exact h1⟩
     case measure => have := HK.out; simp [intOf]; omega
  ·
   obtain rfl : k = n := by omega
   have t1 : decide ((k : Int) < (k : Int)) = false := decide_eq_false (by omega)
   obtain ⟨y1, y2⟩ : wr.cell? ⟨w.heap.size + 1, 0, none⟩ = some (.bool false) ∧ wr.cell? ⟨w.heap.size + 1, 1, none⟩ = some (.slice none 0 0) := ⟨by rw [cell_of_row wr _ _ _ _ _ R.r]; rfl, by rw [cell_of_row wr _ _ _ _ _ R.r]; rfl⟩
   have y3 := frozen_of_row wr _ 0 _ _ R.r
   have y4 := frozen_of_row wr _ 1 _ _ R.r
   have HY := Lib.hid (show Box wr (w.heap.size + 1) (.bool false) (.slice none 0 0) from ⟨y1, y2, y3, y4, by have := R.ct.lt; omega⟩)
   clear R
   go_wp2_with fail
   obtain ⟨e1, e2, _, _, _⟩ := HY.out.set (.bool s) (.slice B xs.length d)
   refine bodyPost_ret (v := .agg #[.bool s, .slice B xs.length d]) (by simp [results, Tryz.results18, go_sem, e1, e2]) rfl ?_
   exact RetI.box (by omega) HY.out RR.out.ct.us RR.out.ct.cn RR.out.ct.v RR.out.b
end Go.Proofs.YtmfncapgikobkaaGreat

namespace Go.Proofs.YtmfncapgikobkaaGreat
set_option maxRecDepth 100000
set_option linter.unusedVariables false
set_option linter.unusedSimpArgs false
theorem wpAnyH_states {P : Program} {md : Region.Mode} {ops : Array Oper} {Q : Exit → Act → World → Prop} {S : World → Prop} {T : Type} (rank : T → Nat) (mask : T → Array Bool) (left : T → Nat) (inv : T → Act → World → Prop)
  (h : ∀ s, (∀ s', rank s' < rank s → ∀ a w, inv s' a w → wpAnyH P md ops Q S (left s') (mask s') a w) → ∀ a w, inv s a w → wpAnyH P md ops Q S (left s) (mask s) a w) :
  ∀ (s : T) (a : Act) (w : World), inv s a w → wpAnyH P md ops Q S (left s) (mask s) a w := by
 have key : ∀ (n : Nat) (s : T), rank s ≤ n → ∀ (a : Act) (w : World), inv s a w → wpAnyH P md ops Q S (left s) (mask s) a w := by
  intro n
  induction n with
  | zero => exact fun s hs => h s (fun s' hs' => by omega)
  | succ n ih => exact fun s hs => h s (fun s' hs' => ih s' (by omega))
 exact fun s => key (rank s) s (Nat.le_refl _)
theorem wpAnyH_states2 {P : Program} {md : Region.Mode} {ops : Array Oper} {Q : Exit → Act → World → Prop} {S : World → Prop} {T : Type} (rank : T → Nat) (mask : T → Array Bool) (left : T → Nat) (inv : T → Act → World → Prop)
  (h : ∀ s, (∀ s' k m, rank s' < rank s → k = left s' → m = mask s' → ∀ a w, inv s' a w → wpAnyH P md ops Q S k m a w) → ∀ a w, inv s a w → wpAnyH P md ops Q S (left s) (mask s) a w) :
  ∀ (s : T) (k : Nat) (m : Array Bool), k = left s → m = mask s → ∀ (a : Act) (w : World), inv s a w → wpAnyH P md ops Q S k m a w := by
 intro s k m hk hm a w hi
 subst hk hm
 exact wpAnyH_states rank mask left inv (fun s ih => h s (fun s' k m hr hk hm a w hi => by subst hk hm; exact ih s' hr a w hi)) s a w hi
end Go.Proofs.YtmfncapgikobkaaGreat

namespace Go.Proofs.YtmfncapgikobkaaGreat
set_option maxRecDepth 100000
set_option linter.unusedVariables false
set_option linter.unusedSimpArgs false
open Nds Num
theorem listT_mk (m : Nat) (a b c d : Tr) (X Y : Int) : listT (mk ((m : Int) + 1) a b c d) X Y = listT a X Y ++ listT b (X + p2 m) Y ++ listT c X (Y + p2 m) ++ listT d (X + p2 m) (Y + p2 m) := by
 unfold mk
 split
 ·
  rename_i h
  obtain ⟨rfl, rfl, rfl, rfl⟩ := allE_iff.1 h
  rfl
 ·
  show listT a X Y ++ listT b (X + p2 (((m : Int) + 1).toNat - 1)) Y ++ listT c X (Y + p2 (((m : Int) + 1).toNat - 1)) ++ listT d (X + p2 (((m : Int) + 1).toNat - 1)) (Y + p2 (((m : Int) + 1).toNat - 1)) = _
  rw [show ((m : Int) + 1).toNat - 1 = m by omega]
def listK (l : List Nd) (x : Nd) (m : Nat) (X Y : Int) : Nat → List Cl
 | 0 => []
 | j + 1 => listK l x m X Y j ++ listT (kidT (dens l) x.lv (x.kid j)) (X + offI (p2 m) j) (Y + offJ (p2 m) j)
theorem listK_four (l : List Nd) (x : Nd) (m : Nat) (X Y : Int) (h : x.lv = (m : Int) + 1) : listK l x m X Y 4 = listT (norm (dens l) x) X Y := by
 unfold norm
 rw [h, listT_mk, ← h]
 show ((([] ++ listT (kidT (dens l) x.lv x.a) (X + 0) (Y + 0)) ++ listT (kidT (dens l) x.lv x.b) (X + p2 m) (Y + 0)) ++ listT (kidT (dens l) x.lv x.c) (X + 0) (Y + p2 m)) ++ listT (kidT (dens l) x.lv x.d) (X + p2 m) (Y + p2 m) = _
 rw [Int.add_zero, Int.add_zero, List.nil_append]
theorem listK_len (l : List Nd) (x : Nd) (m : Nat) (X Y : Int) : ∀ j, (listK l x m X Y j).length = cntK l x j
 | 0 => rfl
 | j + 1 => by
  show (listK l x m X Y j ++ _).length = cntK l x j + _
  rw [List.length_append, listK_len l x m X Y j, listT_len]
theorem listK_none (l : List Nd) (x : Nd) (m : Nat) (X Y : Int) {j : Nat} (h : x.kid j = 0) : listK l x m X Y (j + 1) = listK l x m X Y j := by
 show listK l x m X Y j ++ listT (kidT (dens l) x.lv (x.kid j)) _ _ = _
 rw [h, kid_none]
 exact List.append_nil _
theorem off_x (m a : Nat) (H : Int) {j : Nat} (hj : j < 4) : ((2 * a + j % 2 : Nat) : Int) * p2 m - H = (a : Int) * p2 (m + 1) - H + offI (p2 m) j := by
 rw [p2_succ, Int.mul_add]
 have e : ((2 * a + j % 2 : Nat) : Int) * p2 m = (a : Int) * p2 m + (a : Int) * p2 m + ((j % 2 : Nat) : Int) * p2 m := by
  rw [show ((2 * a + j % 2 : Nat) : Int) = (a : Int) + (a : Int) + ((j % 2 : Nat) : Int) by omega, Int.add_mul, Int.add_mul]
 rw [e]
 obtain rfl | rfl | rfl | rfl : j = 0 ∨ j = 1 ∨ j = 2 ∨ j = 3 := by omega
 all_goals simp [offI]
 all_goals omega
theorem off_y (m a : Nat) (H : Int) {j : Nat} (hj : j < 4) : ((2 * a + j / 2 : Nat) : Int) * p2 m - H = (a : Int) * p2 (m + 1) - H + offJ (p2 m) j := by
 rw [p2_succ, Int.mul_add]
 have e : ((2 * a + j / 2 : Nat) : Int) * p2 m = (a : Int) * p2 m + (a : Int) * p2 m + ((j / 2 : Nat) : Int) * p2 m := by
  rw [show ((2 * a + j / 2 : Nat) : Int) = (a : Int) + (a : Int) + ((j / 2 : Nat) : Int) by omega, Int.add_mul, Int.add_mul]
 rw [e]
 obtain rfl | rfl | rfl | rfl : j = 0 ∨ j = 1 ∨ j = 2 ∨ j = 3 := by omega
 all_goals simp [offJ]
 all_goals omega
theorem half_div (a b : Nat) (hb : b < 2) {n m : Nat} (h : n / 2 ^ m = 2 * a + b) : n / 2 ^ (m + 1) = a := by
 rw [Nat.pow_succ, ← Nat.div_div_eq_div_mul, h]
 omega
end Go.Proofs.YtmfncapgikobkaaGreat

namespace Go.Proofs.YtmfncapgikobkaaGreat
set_option maxRecDepth 100000
set_option linter.unusedVariables false
set_option linter.unusedSimpArgs false
open Go.RowKit Num
def FrU (B : Nat) (A : Option Addr) : Prop := ∀ a, A = some a → B ≤ a.block
def RetSF (a b : Nat) (w : World) (e : Ending) (w' : World) : Prop :=
 ∃ A c rs, e = .returned (.tuple #[.slice A rs.length c, .bool true]) ∧ Us w' A c rs ∧ Canon rs ∧ val rs = a - b ∧ Below w.heap.size w w' ∧ FrU w.heap.size A
def RetIF (n : Int) (w : World) (e : Ending) (w' : World) : Prop :=
 ∃ A c s rs, e = .returned (.agg #[.bool s, .slice A rs.length c]) ∧ Us w' A c rs ∧ CanonI s rs ∧ ival s rs = n ∧ Below w.heap.size w w' ∧ FrU w.heap.size A
theorem RetIF.box {w w1 : World} {g : Nat} {A A0 : Option Addr} {c n0 c0 : Nat} {s s0 : Bool} {rs : List Nat} {n : Int} (hg : w.heap.size ≤ g) (hb : Box w1 g (.bool s0) (.slice A0 n0 c0)) (q : Us w1 A c rs) (k : CanonI s rs) (v : ival s rs = n) (b : Below w.heap.size w w1) (f : FrU w.heap.size A) :
  RetIF n w (.returned (.agg #[.bool s, .slice A rs.length c])) ((w1.setCell ⟨g, 0, none⟩ (.bool s)).setCell ⟨g, 1, none⟩ (.slice A rs.length c)) :=
 ⟨A, c, s, rs, rfl, q.boxed hb _ _, k, v, (b.setCell (p := ⟨g, 0, none⟩) hg _).setCell (p := ⟨g, 1, none⟩) hg _, f⟩
set_option maxRecDepth 100000 in
set_option maxHeartbeats 1600000 in
theorem sub_fresh (A B : Option Addr) (c d : Nat) (xs ys : List Nat) (w : World) (h : Us w A c xs) (k : Us w B d ys) (hx : xs.length ≤ 1000000) (hy : ys.length ≤ 1000000) (hle : val ys ≤ val xs) :
  Calls Tryz.prog 78 #[.slice A xs.length c, .slice B ys.length d] w (RetSF (val xs) (val ys) w) := by
 obtain ⟨i0, hi, hz0, hz1, hz2⟩ := info_parts Tryz.infoU
 obtain ⟨n, hn⟩ : ∃ n, n = xs.length := ⟨_, rfl⟩
 obtain ⟨m, hm⟩ : ∃ m, m = ys.length := ⟨_, rfl⟩
 obtain ⟨z, hz⟩ : ∃ z, z = cmpN (val xs) (val ys) := ⟨_, rfl⟩
 rw [← hn, ← hm]
 have hln : n ≤ 1000000 := by omega
 have hlm : m ≤ 1000000 := by omega
 have HN := Lib.hid hn
 have HM := Lib.hid hm
 have H1 := Lib.hid h
 have H2 := Lib.hid k
 have HI := Lib.hid (And.intro hi (And.intro hz0 (And.intro hz1 hz2)))
 have HZ := Lib.hid hz
 clear h k hi hz0 hz1 hz2 hn hm hx hy hz
 have zneg : ¬ z < 0 := by rw [HZ.out]; exact fun h => absurd hle (by have := cmpN_neg.1 h; omega)
 have HLE := Lib.hid hle
 clear hle
 go_enter Tryz.func78, Tryz.ntmps78
 go_wp2_with (first
  | (go_at_call 104; refine (cmp_val H1.out H2.out HN.out HM.out hln hlm HZ.out).mono ?_; rintro e w1 ⟨rfl, b1⟩)
  | (at_make; refine wpList_make_full _ rfl _ _ 40 rfl w1.heap.size 89 i0 _ 1 Tryz.underlying40 HI.out.1 HI.out.2.1 HI.out.2.2.1 .i64 .i64 _ _ n rfl rfl (by omega) (by omega) (by rw [HI.out.2.2.2]; omega) (by unfold maxLen; omega) (Nat.le_refl _) ?_; intro w0 hown0 hgrow0))
 have own0 := OwnU.made hown0
 have hb0 : Below w1.heap.size w1 w0 := (Below.refl _ _).grown hgrow0 (Nat.le_refl _) (fun k hk => by cases hk)
 have R0 := Lib.hid (show SubRel n xs ys w1 w1.heap.size 0 0 (List.replicate n 0) w0 from ⟨by omega, own0, by simp [val], hb0⟩)
 have B1 := Lib.hid b1
 clear hown0 hgrow0 own0 hb0 b1
 generalize w1.heap.size = g at R0 ⊢
 go_loopw [7, 19] (fun cv i wr => ∃ (k bo : Nat) (rs : List Nat), k ≤ n ∧ i = .int .i64 k ∧ cv = .int .u32 bo ∧ SubRel n xs ys w1 g k bo rs wr) (fun _ i _ => n - (intOf i).toNat)
 case atStart => exact ⟨0, 0, _, Nat.zero_le _, rfl, rfl, R0.out⟩
 case round =>
  obtain ⟨k, bo, rs, hk, rfl, rfl, R⟩ := hrel
  have hbo := R.1
  by_cases hlt : k < n
  ·
   have h1' := H1.out.below B1.out
   obtain ⟨b, off, rfl, hb, hc⟩ := h1'.at_ (by rw [← HN.out]; omega)
   have ex := (R.2.2.2.cell (p := ⟨b, off + k, none⟩) hb).trans (hc k (by rw [← HN.out]; exact hlt))
   obtain ⟨x, hxx⟩ : ∃ x, x = xs[k]?.getD 0 := ⟨_, rfl⟩
   obtain ⟨y, hyy⟩ : ∃ y, y = ys[k]?.getD 0 := ⟨_, rfl⟩
   rw [← hxx] at ex
   have hxl : x < 4294967296 := by rw [hxx]; exact H1.out.1.getD k
   have hyl : y < 4294967296 := by rw [hyy]; exact H2.out.1.getD k
   have ec := R.2.1.cell (k := k) (by omega)
   have fc := R.2.1.free k
   have RR := Lib.hid (R.next HN.out.symm hlt H1.out.1 H2.out.1 hxx hyy)
   have H3 := Lib.hid ((H2.out.below B1.out).below R.2.2.2)
   have HY := Lib.hid hyy
   clear hc hxx hyy R h1'
   go_wp2_with (first
    | (go_at_call 106; refine (at_val H3.out HM.out.symm hlm k HY.out).mono ?_; rintro e w' ⟨rfl, rfl⟩)
    | (go_at_call 108; refine (sub32_any x y bo _ hxl hyl hbo).mono ?_; rintro e w' ⟨rfl, rfl⟩))
   go_roundw
   case rel => exact ⟨k + 1, _, _, by omega, by go_num, rfl, RR.out⟩
   case measure => simp [intOf] <;> omega
  ·
   obtain rfl : k = n := by omega
   have F := Lib.hid (R.last HN.out.symm H1.out.1 HLE.out)
   have HSZ := Lib.hid R.2.1.2.1; have HGB := Lib.hid R.2.1.base
   have RD := Lib.hid R.2.1.reads
   have HB := Lib.hid R.2.2.2
   clear R hlt hk
   go_wp2_with (go_at_call 107; refine (trim_ofF RD.out HSZ.out (by omega)).mono ?_; rintro e w3 ⟨A3, c3, r3, rfl, q3, k3, v3, b3, n3⟩; have HN3 := Lib.hid n3; clear n3)
   go_ret2
   exact ⟨A3, c3, r3, rfl, q3, k3, v3.trans F.out, (B1.out.trans (HB.out.mono B1.out.size)).trans (b3.mono (Nat.le_trans B1.out.size HB.out.size)), fun a ea => by
    rcases HN3.out with e | e
    ·
     rw [e] at ea; cases ea; exact Nat.le_trans B1.out.size HGB.out
    ·
     rw [e] at ea; cases ea⟩
set_option maxRecDepth 100000 in
set_option maxHeartbeats 1600000 in
theorem signed_keep (s : Bool) (A : Option Addr) (c : Nat) (xs : List Nat) (w : World) (h : Us w A c xs) (hc : Canon xs) :
  Calls Tryz.prog 76 #[.bool s, .slice A xs.length c] w fun e w' => ∃ s2, e = .returned (.agg #[.bool s2, .slice A xs.length c]) ∧ Us w' A c xs ∧ CanonI s2 xs ∧ ival s2 xs = ival s xs ∧ Below w.heap.size w w' := by
 have hcap := h.cap
 have hk := canonI_of hc s
 have hv := ival_of xs s
 have H := Lib.hid (And.intro hk hv)
 clear hk hv
 go_enter Tryz.func76, Tryz.ntmps76
 cases s
 ·
  go_wp2
  refine bodyPost_ret (v := .agg #[.bool false, .slice A xs.length c]) (by simp [results, Tryz.results76, go_sem]) rfl ⟨_, rfl, h.below (Below.alloc (Below.refl _ _) (Nat.le_refl _) _), H.out.1, H.out.2, Below.alloc (Below.refl _ _) (Nat.le_refl _) _⟩
 ·
  go_wp2
  refine bodyPost_ret (v := .agg #[.bool (decide (0 < xs.length)), .slice A xs.length c]) (by simp [results, Tryz.results76, go_sem]) rfl ⟨decide (0 < xs.length), rfl, h.below (Below.alloc (Below.refl _ _) (Nat.le_refl _) _), by simpa using H.out.1, by simpa using H.out.2, Below.alloc (Below.refl _ _) (Nat.le_refl _) _⟩
set_option maxRecDepth 100000 in
set_option maxHeartbeats 1600000 in
theorem badd_moreF (s : Bool) (A B : Option Addr) (c d : Nat) (xs ys : List Nat) (w : World) (h : Us w A c xs) (k : Us w B d ys) (hl : xs.length ≤ 60000) (kl : ys.length ≤ 60000) (hle : val ys ≤ val xs) :
  Calls Tryz.prog 48 #[.agg #[.bool s, .slice A xs.length c], .agg #[.bool (!s), .slice B ys.length d]] w (RetIF (ival s xs + ival (!s) ys) w) := by
 have hcap := h.cap
 have kcap := k.cap
 obtain ⟨hX, hY, hR, hB⟩ := box3 w (.bool s) (.slice A xs.length c) (.bool (!s)) (.slice B ys.length d) (.bool false) (.slice none 0 0) 42
 have HX := Lib.hid hX
 have HY := Lib.hid hY
 have HR := Lib.hid hR
 have HB := Lib.hid (hB)
 have H1 := Lib.hid (h.below HB.out)
 have H2 := Lib.hid (k.below HB.out)
 have hd := h.1
 have kd := k.1
 clear h k hX hY hR hB
 have n1 : ¬ w.heap.size = w.heap.size + 1 + 1 := by omega
 have n2 : ¬ w.heap.size + 1 + 1 = w.heap.size := by omega
 have HL := Lib.hid hle
 clear hle
 have hst : (s == !s) = false := by cases s <;> rfl
 go_enter Tryz.func48, Tryz.ntmps48
 go_wp2_with (first
  | (go_at_call_of 78 (Value.slice A xs.length c); go_loud (refine (sub_fresh _ _ _ _ xs ys _ H1.out H2.out (by omega) (by omega) HL.out).mono ?_; rintro e w1 ⟨A1, c1, r1, rfl, q1, k1, v1, b1, f1⟩; have HF1 := Lib.hid f1; clear f1; obtain ⟨x1, x2, _, _, _⟩ := HX.out.below b1; obtain ⟨z1, z2, _, _, _⟩ := HY.out.below b1; have l1 := len_less hd hl k1 v1; have HV := Lib.hid v1; clear v1))
  | (go_at_call 76; go_loud (refine (signed_keep s _ _ r1 _ q1 k1).mono ?_; rintro e w2 ⟨s2, rfl, q2, k2, v2, b2⟩; obtain ⟨y1, y2, y3, y4, _⟩ := (HR.out.below b1).below b2; have HV2 := Lib.hid v2; clear v2)))
 obtain ⟨e1, e2, _, _, _⟩ := (((HR.out.below b1).below b2).set (.bool s2) (.slice A1 r1.length c1))
 refine bodyPost_ret (v := .agg #[.bool s2, .slice A1 r1.length c1]) (by simp [results, Tryz.results48, go_sem, e1, e2]) rfl ?_
 refine RetIF.box (by omega) ((HR.out.below b1).below b2) q2 k2 (HV2.out.trans ?_) ((HB.out.trans (b1.mono HB.out.size)).trans (b2.mono (HB.out.trans (b1.mono HB.out.size)).size)) (fun a e => Nat.le_trans HB.out.size (HF1.out a e))
 have hle := HL.out
 unfold ival
 rw [HV.out]
 cases s <;> simp <;> omega
set_option maxRecDepth 100000 in
set_option maxHeartbeats 1600000 in
theorem badd_lessF (s : Bool) (A B : Option Addr) (c d : Nat) (xs ys : List Nat) (w : World) (h : Us w A c xs) (k : Us w B d ys) (hl : xs.length ≤ 60000) (kl : ys.length ≤ 60000) (hle : val xs < val ys) :
  Calls Tryz.prog 48 #[.agg #[.bool s, .slice A xs.length c], .agg #[.bool (!s), .slice B ys.length d]] w (RetIF (ival s xs + ival (!s) ys) w) := by
 have hcap := h.cap
 have kcap := k.cap
 obtain ⟨hX, hY, hR, hB⟩ := box3 w (.bool s) (.slice A xs.length c) (.bool (!s)) (.slice B ys.length d) (.bool false) (.slice none 0 0) 42
 have HX := Lib.hid hX
 have HY := Lib.hid hY
 have HR := Lib.hid hR
 have HB := Lib.hid (hB)
 have H1 := Lib.hid (h.below HB.out)
 have H2 := Lib.hid (k.below HB.out)
 have hd := h.1
 have kd := k.1
 clear h k hX hY hR hB
 have n1 : ¬ w.heap.size = w.heap.size + 1 + 1 := by omega
 have n2 : ¬ w.heap.size + 1 + 1 = w.heap.size := by omega
 have HL := Lib.hid hle
 clear hle
 have hst : (s == !s) = false := by cases s <;> rfl
 have tok0 : True := trivial
 go_enter Tryz.func48, Tryz.ntmps48
 go_wp2_with (first
  | (go_at_call 78; have _t := tok0; refine (sub_any A B _ _ xs ys _ H1.out H2.out (by omega) (by omega)).mono ?_; intro e w1 h; obtain ⟨rfl, b1⟩ := h.1 HL.out; clear h tok0 _t; obtain ⟨x1, x2, _, _, _⟩ := HX.out.below b1; obtain ⟨z1, z2, _, _, _⟩ := HY.out.below b1)
  | (go_at_call 78; go_loud (refine (sub_fresh B A _ _ ys xs _ (H2.out.below b1) (H1.out.below b1) (by omega) (by omega) (Nat.le_of_lt HL.out)).mono ?_; rintro e w3 ⟨A1, c1, r1, rfl, q1, k1, v1, b3, f1⟩; have HF1 := Lib.hid f1; have HS1 := Lib.hid b1.size; clear f1 x1 x2 z1 z2; obtain ⟨x1, x2, _, _, _⟩ := (HX.out.below b1).below b3; obtain ⟨z1, z2, _, _, _⟩ := (HY.out.below b1).below b3; have l1 := len_less kd kl k1 v1; have HV := Lib.hid v1; clear v1))
  | (go_at_call 76; go_loud (refine (signed_keep (!s) _ _ r1 _ q1 k1).mono ?_; rintro e w2 ⟨s2, rfl, q2, k2, v2, b2⟩; obtain ⟨y1, y2, y3, y4, _⟩ := ((HR.out.below b1).below b3).below b2; have HV2 := Lib.hid v2; clear v2)))
 obtain ⟨e1, e2, _, _, _⟩ := ((((HR.out.below b1).below b3).below b2).set (.bool s2) (.slice A1 r1.length c1))
 refine bodyPost_ret (v := .agg #[.bool s2, .slice A1 r1.length c1]) (by simp [results, Tryz.results48, go_sem, e1, e2]) rfl ?_
 have hb1 := HB.out.trans (b1.mono HB.out.size)
 have hb3 := hb1.trans (b3.mono hb1.size)
 refine RetIF.box (by omega) (((HR.out.below b1).below b3).below b2) q2 k2 (HV2.out.trans ?_) (hb3.trans (b2.mono hb3.size)) (fun a e => Nat.le_trans (Nat.le_trans HB.out.size HS1.out) (HF1.out a e))
 have hle := HL.out
 unfold ival
 rw [HV.out]
 cases s <;> simp <;> omega
theorem badd_opF (s : Bool) (A B : Option Addr) (c d : Nat) (xs ys : List Nat) (w : World) (h : Us w A c xs) (k : Us w B d ys) (hl : xs.length ≤ 60000) (kl : ys.length ≤ 60000) :
  Calls Tryz.prog 48 #[.agg #[.bool s, .slice A xs.length c], .agg #[.bool (!s), .slice B ys.length d]] w (RetIF (ival s xs + ival (!s) ys) w) := by
 rcases Nat.lt_or_ge (val xs) (val ys) with hlt | hge
 ·
  exact badd_lessF s A B c d xs ys w h k hl kl hlt
 ·
  exact badd_moreF s A B c d xs ys w h k hl kl hge
theorem neg_true {s : Bool} {xs r : List Nat} (hd : Dig xs) (hc : Canon xs) (h0 : xs ≠ []) (hv : ival s r = -ival false xs) : s = true := by
 have h1 : val xs ≠ 0 := fun e => h0 (canon_zero hc e)
 unfold ival at hv
 cases s with
 | true => rfl
 | false =>
  simp at hv
  omega
set_option maxRecDepth 100000 in
set_option maxHeartbeats 1600000 in
theorem bsub_posF (A B : Option Addr) (c d : Nat) (xs ys : List Nat) (w : World) (h : Us w A c xs) (k : Us w B d ys) (hl : xs.length ≤ 60000) (kl : ys.length ≤ 60000) (hy0 : ys ≠ []) (hyc : Canon ys) :
  Calls Tryz.prog 93 #[.agg #[.bool false, .slice A xs.length c], .agg #[.bool false, .slice B ys.length d]] w (RetIF (ival false xs - ival false ys) w) := by
 have hcap := h.cap
 have kcap := k.cap
 obtain ⟨hX, hY, hR, hB⟩ := box3 w (.bool false) (.slice A xs.length c) (.bool false) (.slice B ys.length d) (.bool false) (.slice none 0 0) 42
 have HX := Lib.hid hX.drew
 have HY := Lib.hid hY.drew
 have HR := Lib.hid hR.drew
 have HB := Lib.hid (Below.drew' hB)
 have H1 := Lib.hid (h.below HB.out)
 have H2 := Lib.hid (k.below HB.out)
 have kd := k.1
 clear h k hX hY hR hB
 have n1 : ¬ w.heap.size = w.heap.size + 1 + 1 := by omega
 have n2 : ¬ w.heap.size + 1 + 1 = w.heap.size := by omega
 go_enter Tryz.func93, Tryz.ntmps93
 go_wp2_with fail
 go_region_held3 (fun w' => w'.cell? ⟨w.heap.size, 0, none⟩ = some (.bool false) ∧ w'.cell? ⟨w.heap.size, 1, none⟩ = some (.slice A xs.length c) ∧ w'.cell? ⟨w.heap.size + 1, 0, none⟩ = some (.bool false) ∧ w'.cell? ⟨w.heap.size + 1, 1, none⟩ = some (.slice B ys.length d))
  (first | go_keep | fail)
  (first
   | (go_at_call 83; refine (minus_any false _ _ ys _ H2.out (by omega)).mono ?_; rintro e w1 ⟨A1, c1, s1, r1, rfl, q1, k1, v1, b1⟩; obtain ⟨x1, x2, _, _, _⟩ := HX.out.below b1; obtain ⟨z1, z2, _, _, _⟩ := HY.out.below b1; have l1 : r1.length ≤ 60000 := Nat.le_trans (len_neg kd k1 v1) kl; have HS1 := Lib.hid b1.size; obtain rfl : s1 = true := neg_true kd hyc hy0 v1)
   | (go_at_call 48; refine (badd_opF false _ _ _ _ xs r1 _ (H1.out.below b1) q1 hl l1).mono ?_; rintro e w2 ⟨A2, c2, s2, r2, rfl, q2, k2, v2, b2, f2⟩; have HF2 := Lib.hid f2; clear f2; obtain ⟨x1, x2, _, _, _⟩ := (HX.out.below b1).below b2; obtain ⟨z1, z2, _, _, _⟩ := (HY.out.below b1).below b2; obtain ⟨y1, y2, y3, y4, _⟩ := (HR.out.below b1).below b2))
 go_wp2
 obtain ⟨e1, e2, _, _, _⟩ := (((HR.out.below b1).below b2).set (.bool s2) (.slice A2 r2.length c2))
 refine bodyPost_ret (v := .agg #[.bool s2, .slice A2 r2.length c2]) (by simp [results, Tryz.results93, go_sem, e1, e2]) rfl ?_
 exact RetIF.box (by omega) ((HR.out.below b1).below b2) q2 k2 (by rw [v2]; show ival false xs + ival true r1 = _; rw [v1, Int.sub_eq_add_neg]) ((HB.out.trans (b1.mono HB.out.size)).trans (b2.mono (HB.out.trans (b1.mono HB.out.size)).size)) (fun a e => Nat.le_trans (Nat.le_trans HB.out.size HS1.out) (HF2.out a e))
end Go.Proofs.YtmfncapgikobkaaGreat

namespace Go.Proofs.YtmfncapgikobkaaGreat
set_option maxRecDepth 100000
set_option linter.unusedVariables false
set_option linter.unusedSimpArgs false
open Go.RowKit Nds Num
def putB (x p b : Nat) : Nat := (x &&& (2 ^ 32 - (2 ^ p + 1))) ||| (b * 2 ^ p)
theorem u32_andNot_nat (a b : Nat) (ha : a < 4294967296) (hb : b < 4294967296) : bits .andNot .u32 (a : Int) (b : Int) = ((a &&& (2 ^ 32 - (b + 1)) : Nat) : Int) := by
 have hx : a &&& (2 ^ 32 - (b + 1)) < 2 ^ 32 := Nat.and_lt_two_pow _ (by omega)
 show IntKind.u32.wrap ((BitVec.ofInt 32 (a : Int) &&& ~~~ BitVec.ofInt 32 (b : Int)).toNat : Int) = _
 rw [BitVec.toNat_and, BitVec.toNat_not, ofInt_u32 a ha, ofInt_u32 b hb, IntKind.wrap_u32', show 2 ^ 32 - 1 - b = 2 ^ 32 - (b + 1) by omega]
 omega
theorem put_bit {x p b : Nat} (hx : x < 2 ^ 32) (hp : p < 32) (hb : b < 2) (j : Nat) : (putB x p b).testBit j = if j = p then decide (b = 1) else x.testBit j := by
 have h2 : 2 ^ p < 2 ^ 32 := Nat.pow_lt_pow_right (by decide) hp
 unfold putB
 rw [Nat.testBit_or, Nat.testBit_and, Nat.testBit_two_pow_sub_succ h2, Nat.testBit_two_pow]
 have hx' : x.testBit j = true → j < 32 := fun h => by
  rcases Nat.lt_or_ge j 32 with h1 | h1
  ·
   exact h1
  ·
   rw [Nat.testBit_lt_two_pow (Nat.lt_of_lt_of_le hx (Nat.pow_le_pow_right (by decide) h1))] at h
   cases h
 have hbb : b = 0 ∨ b = 1 := by omega
 by_cases hj : j = p
 ·
  subst hj
  rcases hbb with rfl | rfl
  ·
   simp
  ·
   simp [Nat.testBit_two_pow]
 ·
  have hj' : ¬ p = j := fun e => hj e.symm
  rw [if_neg hj]
  cases hxj : x.testBit j with
  | false => rcases hbb with rfl | rfl <;> simp [Nat.testBit_two_pow, hj']
  | true =>
   have := hx' hxj
   rcases hbb with rfl | rfl <;> simp [Nat.testBit_two_pow, hj', this]
theorem put_lt {x p b : Nat} (hx : x < 4294967296) (hp : p < 32) (hb : b < 2) : putB x p b < 4294967296 := by
 have h : putB x p b < 2 ^ 32 := Nat.lt_pow_two_of_testBit _ fun j hj => by
  rw [put_bit (by omega) hp hb, if_neg (by omega)]
  exact Nat.testBit_lt_two_pow (Nat.lt_of_lt_of_le (show x < 2 ^ 32 by omega) (Nat.pow_le_pow_right (by decide) hj))
 omega
theorem put_val {xs : List Nat} {i b : Nat} (hd : Dig xs) (hi : i / 32 < xs.length) (hb : b < 2) :
  val (xs.set (i / 32) (putB (xs[i / 32]?.getD 0) (i % 32) b)) / 2 ^ i = 2 * (val xs / 2 ^ (i + 1)) + b := by
 have hxl := hd.getD (i / 32)
 have hy : Dig (xs.set (i / 32) (putB (xs[i / 32]?.getD 0) (i % 32) b)) := hd.set _ (put_lt hxl (by omega) hb)
 refine Nat.eq_of_testBit_eq fun j => ?_
 rw [Nat.testBit_div_two_pow, val_testBit hy]
 have e : 2 * (val xs / 2 ^ (i + 1)) + b = (val xs / 2 ^ (i + 1)) * 2 + b := by omega
 cases j with
 | zero =>
  rw [Nat.zero_add, List.getElem?_set_self hi, Option.getD_some, put_bit (by omega) (by omega) hb, if_pos rfl, Nat.testBit_zero]
  have : b = 0 ∨ b = 1 := by omega
  rcases this with rfl | rfl <;> simp [Nat.add_mod]
 | succ j =>
  have e2 : (2 * (val xs / 2 ^ (i + 1)) + b).testBit (j + 1) = (val xs / 2 ^ (i + 1)).testBit j := by
   rw [Nat.testBit_succ, show (2 * (val xs / 2 ^ (i + 1)) + b) / 2 = val xs / 2 ^ (i + 1) by omega]
  rw [e2, Nat.testBit_div_two_pow, val_testBit hd, show j + (i + 1) = j + 1 + i by omega]
  by_cases hw : (j + 1 + i) / 32 = i / 32
  ·
   rw [hw, List.getElem?_set_self hi, Option.getD_some, put_bit (by omega) (by omega) hb, if_neg (by omega)]
  ·
   rw [List.getElem?_set_ne (fun e => hw e.symm)]
set_option maxRecDepth 100000 in
set_option maxHeartbeats 1600000 in
theorem putBit_any (g n c i b x : Nat) (w : World) (hb : b < 2) (hi : i / 32 < n) (hn : n ≤ 1000) (hx : x < 4294967296) (hc : w.cell? ⟨g, i / 32, none⟩ = some (.int .u32 (x : Int))) (hf : w.frozen? ⟨g, i / 32, none⟩ = false) :
  Calls Tryz.prog 70 #[.slice (some ⟨g, 0, none⟩) n c, .int .i64 (i : Int), .int .i64 (b : Int)] w fun e w' => e = .returned (.tuple #[]) ∧ w' = (w.setCell ⟨g, i / 32, none⟩ (.int .u32 ((putB x (i % 32) b : Nat) : Int))).drewN 1 := by
 obtain ⟨wh, hwh⟩ : ∃ k, k = i / 32 := ⟨_, rfl⟩
 obtain ⟨pt, hpt⟩ : ∃ k, k = i % 32 := ⟨_, rfl⟩
 rw [← hwh] at hc hf hi ⊢
 rw [← hpt]
 have e1 : ((i : Int) / 32) = (wh : Int) := by omega
 have e2 : ((i : Int) % 32) = (pt : Int) := by omega
 have l1 : (0 : Int) ≤ (i : Int) := by omega
 have l2 : (i : Int) ≤ 100000 := by omega
 have l3 : (0 : Int) ≤ (wh : Int) := by omega
 have l4 : (wh : Int) < (n : Int) := by omega
 have l5 : (0 : Int) ≤ (pt : Int) := by omega
 have l6 : (pt : Int) < 32 := by omega
 have hp : pt < 32 := by omega
 have h2 : 2 ^ pt < 2 ^ 32 := Nat.pow_lt_pow_right (by decide) hp
 have E := Lib.hid (show bits .or .u32 (bits .andNot .u32 (x : Int) (2 ^ pt % 4294967296)) ((b : Int) * 2 ^ pt % 4294967296) = ((putB x pt b : Nat) : Int) by
  obtain ⟨P, hP⟩ : ∃ P, P = 2 ^ pt := ⟨_, rfl⟩
  have h4 : P < 4294967296 := by rw [hP]; omega
  have h5 : ((2 : Int) ^ pt) = (P : Int) := by rw [hP]; simp
  obtain ⟨Q, hQ⟩ : ∃ Q, Q = b * P := ⟨_, rfl⟩
  have h3 : Q < 4294967296 := by
   have : b = 0 ∨ b = 1 := by omega
   rcases this with rfl | rfl <;> omega
  have h6 : (b : Int) * (P : Int) = (Q : Int) := by rw [hQ]; simp
  rw [h5, h6, show ((P : Int) % 4294967296) = (P : Int) by omega, show ((Q : Int) % 4294967296) = (Q : Int) by omega, u32_andNot_nat _ _ hx h4, u32_or_nat _ _ (Nat.lt_of_le_of_lt Nat.and_le_left hx) h3, hQ, hP]
  rfl)
 clear hwh hpt h2 hp
 go_enter Tryz.func70, Tryz.ntmps70
 go_wp2_with fail
 go_region
 rw [E.out]
 go_end0
 exact ⟨rfl, rfl⟩
def slLen : Value → Nat
 | .slice _ n _ => n
 | _ => 0
theorem val_top {xs : List Nat} {k : Nat} (hk : k < xs.length) (h : xs[k]?.getD 0 = 0) : val (xs.take (k + 1)) = val (xs.take k) := by
 rw [val_take_succ hk, h, Nat.mul_zero, Nat.add_zero]
theorem bsub_posN (A B : Option Addr) (c d n : Nat) (xs ys : List Nat) (w : World) (h : Us w A c xs) (hn : xs.length = n) (k : Us w B d ys) (hl : n ≤ 60000) (kl : ys.length ≤ 60000) (hy0 : ys ≠ []) (hyc : Canon ys) :
  Calls Tryz.prog 93 #[.agg #[.bool false, .slice A n c], .agg #[.bool false, .slice B ys.length d]] w (RetIF ((val xs : Int) - val ys) w) := by
 subst hn
 exact bsub_posF A B c d xs ys w h k hl kl hy0 hyc
set_option maxRecDepth 100000 in
set_option maxHeartbeats 1600000 in
theorem middle_any (fb : Nat) (A B : Option Addr) (c d n : Nat) (xs hs : List Nat) (w : World) (h : Us w A c xs) (hn : xs.length = n) (hl : n ≤ 50000) (k : Us w B d hs) (kl : hs.length ≤ 50000) (h0 : hs ≠ []) (hc : Canon hs) (c1 : w.cell? ⟨fb, 1, none⟩ = some (.bool false)) (c2 : w.cell? ⟨fb, 2, none⟩ = some (.slice B hs.length d)) :
  Calls Tryz.prog 71 #[.pointer (some ⟨fb, 0, none⟩), .slice A n c] w (RetIF ((val xs : Int) - val hs) w) := by
 have hcap := h.cap
 have kcap := k.cap
 rw [hn] at hcap
 obtain ⟨hR, hB⟩ := box1 w (.bool false) (.slice none 0 0) 42
 have p1 := (hB.cell (p := ⟨fb, 1, none⟩) (lt_of_cell c1)).trans c1
 have p2 := (hB.cell (p := ⟨fb, 2, none⟩) (lt_of_cell c2)).trans c2
 have H1 := Lib.hid (h.below hB)
 have H2 := Lib.hid (k.below hB)
 have HN := Lib.hid hn
 have HR := Lib.hid hR
 have HB := Lib.hid hB
 clear h k hn hR hB c1 c2
 go_enter Tryz.func71, Tryz.ntmps71
 go_wp2_with fail
 go_loop [1] (fun t => ∃ k : Nat, k ≤ n ∧ t = .slice A k c ∧ val (xs.take k) = val xs) (fun t => slLen t)
 case atStart => exact ⟨n, Nat.le_refl _, rfl, by rw [List.take_of_length_le (by have := HN.out; omega)]⟩
 case round =>
  obtain ⟨k, hk, rfl, hv⟩ := hrel
  have HV := Lib.hid hv
  clear hv
  by_cases hp : 0 < k
  ·
   obtain ⟨p, rfl⟩ : ∃ p, k = p + 1 := ⟨k - 1, by omega⟩
   obtain ⟨b, off, rfl, hb, hcl⟩ := H1.out.at_ (by have := HN.out; omega)
   have ex := hcl p (by have := HN.out; omega)
   obtain ⟨x, hx⟩ : ∃ x, x = xs[p]?.getD 0 := ⟨_, rfl⟩
   rw [← hx] at ex
   have HX := Lib.hid hx
   clear hx hcl hp
   have i1 : (0 : Int) ≤ (p : Int) := by omega
   have i2 : (p : Int) + 1 - 1 = (p : Int) := by omega
   have i3 : decide ((p : Int) + 1 > 0) = true := decide_eq_true (by omega)
   by_cases hx0 : x = 0
   ·
    subst hx0
    have HV1 := Lib.hid (show val (xs.take p) = val xs by rw [← HV.out, val_top (by have := HN.out; omega) HX.out.symm])
    go_wp2_with fail
    exact ⟨⟨p, by omega, rfl, HV1.out⟩, Nat.lt_succ_self p⟩
   ·
    have i4 : ((x : Int) == 0) = false := by rw [beq_eq_false_iff_ne]; omega
    have HT := Lib.hid (H1.out.take (k := p + 1) (by have := HN.out; omega))
    have HLT := Lib.hid (show (xs.take (p + 1)).length = p + 1 by rw [List.length_take]; have := HN.out; omega)
    clear hx0
    go_wp2_with (go_at_call 93; go_loud (refine (bsub_posN _ _ _ _ _ (xs.take (p + 1)) hs _ HT.out HLT.out H2.out (by omega) (by omega) h0 hc).mono ?_; rintro e w2 ⟨A2, c2, s2, r2, rfl, q2, k2, v2, b2, f2⟩; have HF2 := Lib.hid f2; have HV2 := Lib.hid v2; clear f2 v2; obtain ⟨y1, y2, y3, y4, _⟩ := HR.out.below b2))
    obtain ⟨e1, e2, _, _, _⟩ := (HR.out.below b2).set (.bool s2) (.slice A2 r2.length c2)
    refine bodyPost_ret (v := .agg #[.bool s2, .slice A2 r2.length c2]) (by simp [results, Tryz.results71, go_sem, e1, e2]) rfl ?_
    exact RetIF.box (Nat.le_refl _) (HR.out.below b2) q2 k2 (by rw [HV2.out, HV.out]) (HB.out.trans (b2.mono HB.out.size)) (fun a e => Nat.le_trans HB.out.size (HF2.out a e))
  ·
   obtain rfl : k = 0 := by omega
   have i3 : decide ((0 : Int) > 0) = false := rfl
   have HT := Lib.hid (H1.out.take (k := 0) (by omega))
   have HLT := Lib.hid (show (xs.take 0).length = 0 from rfl)
   clear hp
   go_wp2_with (go_at_call 93; go_loud (refine (bsub_posN _ _ _ _ _ (xs.take 0) hs _ HT.out HLT.out H2.out (by omega) (by omega) h0 hc).mono ?_; rintro e w2 ⟨A2, c2, s2, r2, rfl, q2, k2, v2, b2, f2⟩; have HF2 := Lib.hid f2; have HV2 := Lib.hid v2; clear f2 v2; obtain ⟨y1, y2, y3, y4, _⟩ := HR.out.below b2))
   obtain ⟨e1, e2, _, _, _⟩ := (HR.out.below b2).set (.bool s2) (.slice A2 r2.length c2)
   refine bodyPost_ret (v := .agg #[.bool s2, .slice A2 r2.length c2]) (by simp [results, Tryz.results71, go_sem, e1, e2]) rfl ?_
   exact RetIF.box (Nat.le_refl _) (HR.out.below b2) q2 k2 (by rw [HV2.out, HV.out]) (HB.out.trans (b2.mono HB.out.size)) (fun a e => Nat.le_trans HB.out.size (HF2.out a e))
end Go.Proofs.YtmfncapgikobkaaGreat
