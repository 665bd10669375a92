/-
  canon: slices.Clone, inner.
-/
import Derived.Test.YtbcolelgbbmjkaaNcRS

namespace Go.Proofs.Ytbcolelgbbmjkaa
set_option linter.unusedVariables false
set_option linter.unusedSimpArgs false
open Go.RowKit Nds
theorem nil_yes (w : World) : (binOp .eql 22 (.slice none 0 0) (.slice none 0 0)).run Try.prog w = .ok (.bool true) w := by kernel_rfl
theorem nil_no (a : Addr) (n c : Nat) (w : World) : (binOp .eql 22 (.slice (some a) n c) (.slice none 0 0)).run Try.prog w = .ok (.bool false) w := by kernel_rfl
set_option maxRecDepth 100000 in
set_option maxHeartbeats 1600000 in
theorem clone_any (A : Option Addr) (c n : Nat) (l : List Nd) (w : World) (h : Ns w A c l) (hn : l.length = n) (hn9 : n ≤ 990000) (hA : A = none → c = 0) :
    Calls Try.prog 22 #[.slice A n c] w fun e w' => ∃ v, e = .returned v ∧ OwnN w' w.heap.size v l ∧ Below w.heap.size w w' := by
  have hcap := h.cap
  rw [hn] at hcap
  have HN := Lib.hid h
  have HL := Lib.hid hn
  have HA := Lib.hid hA
  clear h hn hA
  cases A with
  | none =>
    have hc0 := HA.out rfl
    have hn0 : n = 0 := by omega
    subst hc0
    subst hn0
    have hl : l = [] := List.eq_nil_of_length_eq_zero HL.out
    have HE := Lib.hid hl
    have hq := nil_yes
    clear hl
    go_enter Try.func22, Try.ntmps22
    go_wp2_with fail
    go_ret
    exact ⟨_, rfl, by rw [HE.out]; exact ownN_none _ _, Below.refl _ _⟩
  | some a =>
    have hq := nil_no a n c
    go_enter Try.func22, Try.ntmps22
    go_wp2_with (at_builtin; go_loud (refine wpList_append_nodes _ rfl _ _ rfl w.heap.size _ [] l (some a) n c rfl rfl (OwnN.start _) (HN.out.below ((Below.refl _ w).alloc (Nat.le_refl _) _)) HL.out HA.out (by simp; omega) (by simp) ?_; intro v2 w2 ho2 hg2 hk2; rw [List.nil_append] at ho2; have HO := Lib.hid ho2; have HB := Lib.hid (((Below.refl _ w).alloc (Nat.le_refl _) _).grown hg2 (by simp) (fun k hk => by cases hk; exact Nat.le_refl _)); clear ho2 hg2 hk2))
    go_ret
    exact ⟨_, rfl, HO.out, HB.out⟩
theorem mix_skip {x y : Nd} {q : Nat} (hq : q < 4) (h : y.kid q = x.kid q) : mix x y (q + 1) = mix x y q := by
  match q, hq with
  | 0, _ => have h' : y.a = x.a := h; simp [mix, h']
  | 1, _ => have h' : y.b = x.b := h; simp [mix, h']
  | 2, _ => have h' : y.c = x.c := h; simp [mix, h']
  | 3, _ => have h' : y.d = x.d := h; simp [mix, h']
theorem NdBox.put {w : World} {g : Nat} {x : Nd} (h : NdBox w g x) (y : Nd) : NdBox (((((w.setCell ⟨g, 0, none⟩ (.int .i64 y.lv)).setCell ⟨g, 1, none⟩ (.int .i64 y.a)).setCell ⟨g, 2, none⟩ (.int .i64 y.b)).setCell ⟨g, 3, none⟩ (.int .i64 y.c)).setCell ⟨g, 4, none⟩ (.int .i64 y.d)) g y :=
  heap_setCell_same _ g 4 _ _ _ (heap_setCell_same _ g 3 _ _ _ (heap_setCell_same _ g 2 _ _ _ (heap_setCell_same _ g 1 _ _ _ (heap_setCell_same _ g 0 _ _ _ h))))
/-- Hollow? -/
def holB (l : List Nd) (x : Nd) : Bool := decide (1 < x.lv) && (List.range 4).all (quaB l x)
def halfN (l : List Nd) (x : Nd) : Nd := if holB l x = true then innN l x else nd0
theorem holB_one {l : List Nd} {x : Nd} (h : x.lv = 1) : holB l x = false := by
  unfold holB
  rw [decide_eq_false (by omega)]
  rfl
theorem holB_no {l : List Nd} {x : Nd} {k : Nat} (hk : k < 4) (h : quaB l x k = false) : holB l x = false := by
  unfold holB
  rw [← all4_no hk h, Bool.and_false]
theorem holB_yes {l : List Nd} {x : Nd} (hv : 1 < x.lv) (h : ∀ k, k < 4 → quaB l x k = true) : holB l x = true := by
  unfold holB
  rw [← all4_yes h, decide_eq_true hv]
  rfl
theorem halfN_no {l : List Nd} {x : Nd} (h : holB l x = false) : halfN l x = nd0 := by
  unfold halfN
  rw [if_neg (by rw [h]; simp)]
theorem halfN_yes {l : List Nd} {x : Nd} (h : holB l x = true) : halfN l x = innN l x := by
  unfold halfN
  rw [if_pos h]
theorem mid_wf {y : Nd} (h : y.wf) (k : Nat) : (midN y k).wf := by
  obtain ⟨h0, h1, h2, h3, h4⟩ := h
  refine ⟨in64_0, ?_, ?_, ?_, ?_⟩ <;> (unfold midN; dsimp only; split <;> first | assumption | exact in64_0)
theorem grown_drewN {a b : World} {r : Option Nat} (h : a.grownBy b r) (n : Nat) : a.grownBy (b.drewN n) r := ⟨h.os, h.tape, h.output, h.size, h.block⟩
theorem put_below {B : Nat} {a w : World} (h : Below B a w) {g : Nat} (hg : B ≤ g) (y : Nd) : Below B a (((((w.setCell ⟨g, 0, none⟩ (.int .i64 y.lv)).setCell ⟨g, 1, none⟩ (.int .i64 y.a)).setCell ⟨g, 2, none⟩ (.int .i64 y.b)).setCell ⟨g, 3, none⟩ (.int .i64 y.c)).setCell ⟨g, 4, none⟩ (.int .i64 y.d)) :=
  ((((h.setCell hg _).setCell hg _).setCell hg _).setCell hg _).setCell hg _
theorem hgu_help {a b c : World} {g1 : Nat} {r : Option Nat} (h : a.grownBy c r) (k : a.grownBy b r) (hne : some g1 ≠ r) (hlt : g1 < a.heap.size) : c.heap[g1]? = b.heap[g1]? :=
  (h.block g1 hlt hne).trans (k.block g1 hlt hne).symm
set_option maxRecDepth 100000 in
set_option maxHeartbeats 3200000 in
theorem inner_any (A : Option Addr) (c n : Nat) (l : List Nd) (x : Nd) (w : World) (h : Ns w A c l) (hn : l.length = n) (hn9 : n ≤ 990000) (hl : looseB l = true) (hx : fitB l x = true) :
    Calls Try.prog 25 #[.slice A n c, ndv x] w fun e w' => e = .returned (.tuple #[ndv (halfN l x), .bool (holB l x)]) ∧ Below w.heap.size w w' := by
  have hcap := h.cap
  rw [hn] at hcap
  have hxv := fit_lv hx
  have HX := Lib.hid hx
  have HL := Lib.hid hn
  have HLL := Lib.hid hl
  obtain ⟨R, hR⟩ : ∃ R, R = Ending.returned (.tuple #[ndv (halfN l x), .bool (holB l x)]) := ⟨_, rfl⟩
  rw [← hR]
  have HR := Lib.hid hR
  obtain ⟨W, hW⟩ : ∃ W : World, W = (w.alloc (.cells #[.int .i64 x.lv, .int .i64 x.a, .int .i64 x.b, .int .i64 x.c, .int .i64 x.d] 38)).alloc (.cells #[.int .i64 0, .int .i64 0, .int .i64 0, .int .i64 0, .int .i64 0] 38) := ⟨_, rfl⟩
  have hb : Below w.heap.size w W := by rw [hW]; exact ((Below.refl w.heap.size w).alloc (Nat.le_refl _) _).alloc (by simp) _
  have HB := Lib.hid hb
  have HN := Lib.hid (h.below hb)
  have HNW := Lib.hid h
  have HBX := Lib.hid (show NdBox W w.heap.size x by rw [hW]; exact (NdBox.new w x).stay (Below.heap_alloc _ _ w.heap.size (by simp)))
  have HBZ := Lib.hid (show NdBox W (w.heap.size + 1) nd0 by
    rw [hW]
    have h1 := NdBox.new (w.alloc (.cells #[.int .i64 x.lv, .int .i64 x.a, .int .i64 x.b, .int .i64 x.c, .int .i64 x.d] 38)) nd0
    rwa [show (w.alloc (.cells #[.int .i64 x.lv, .int .i64 x.a, .int .i64 x.b, .int .i64 x.c, .int .i64 x.d] 38)).heap.size = w.heap.size + 1 by simp] at h1)
  have HSZ := Lib.hid (show W.heap.size = w.heap.size + 2 by rw [hW]; simp)
  clear h hn hl hx hb hR
  by_cases h1 : x.lv = 1
  · have HO := Lib.hid h1
    have t1 : (x.lv == 1) = true := by rw [beq_iff_eq]; exact h1
    have HW := Lib.hid hW
    clear h1 hW
    go_enter Try.func25, Try.ntmps25
    go_wp2_with fail
    rw [← HW.out]
    obtain ⟨c1, c2, c3, c4, c5⟩ := HBZ.out.at_
    have z1 := HBZ.out.free 0
    have z2 := HBZ.out.free 1
    have z3 := HBZ.out.free 2
    have z4 := HBZ.out.free 3
    have z5 := HBZ.out.free 4
    obtain ⟨g, hg⟩ : ∃ g, g = w.heap.size + 1 := ⟨_, rfl⟩
    have HG := Lib.hid hg
    rw [← hg] at HBZ c1 c2 c3 c4 c5 z1 z2 z3 z4 z5 ⊢
    clear hg
    go_wp2_with fail
    refine bodyPost_ret (v := .tuple #[ndv nd0, .bool false]) (by simp [results, Try.results25, go_sem, c1, c2, c3, c4, c5]) rfl ⟨?_, HB.out⟩
    rw [HR.out, holB_one HO.out, halfN_no (holB_one HO.out)]
  · have t1 : (x.lv == 1) = false := beq_eq_false_iff_ne.2 h1
    have HW := Lib.hid hW
    clear hW
    go_enter Try.func25, Try.ntmps25
    go_wp2_with fail
    rw [← HW.out]
    obtain ⟨g1, hg1⟩ : ∃ g1, g1 = w.heap.size + 1 := ⟨_, rfl⟩
    obtain ⟨g2, hg2⟩ : ∃ g2, g2 = w.heap.size + 1 + 1 := ⟨_, rfl⟩
    obtain ⟨V, hV⟩ : ∃ V : World, V = W.alloc (.cells #[.int .i64 (x.lv - 1), .int .i64 0, .int .i64 0, .int .i64 0, .int .i64 0] 38) := ⟨_, rfl⟩
    have hVB : Below W.heap.size W V := by rw [hV]; exact (Below.refl _ _).alloc (Nat.le_refl _) _
    have HVB := Lib.hid hVB
    have HVW := Lib.hid (HB.out.trans (hVB.mono HB.out.size))
    have HH := Lib.hid (show NdBox V g2 (mix ⟨x.lv - 1, 0, 0, 0, 0⟩ (innN l x) 0) by
      rw [hV, hg2, show w.heap.size + 1 + 1 = W.heap.size from HSZ.out.symm]
      exact NdBox.new W ⟨x.lv - 1, 0, 0, 0, 0⟩)
    rw [← hg1] at HBZ
    have HZV := Lib.hid (HBZ.out.stay (hVB.block g1 HBZ.out.lt))
    have HNV := Lib.hid (HN.out.below hVB)
    have HG1 := Lib.hid (show w.heap.size < g1 ∧ g1 < g2 by omega)
    have HABL := Lib.hid (show ∀ a, 0 < n → A = some a → a.block < w.heap.size from fun a h0 ea => by
      obtain ⟨b, off, e, hb, _⟩ := HNW.out.at_ (by rw [HL.out]; exact h0)
      rw [ea] at e
      cases e
      exact hb)
    rw [← hg2, ← hg1, ← hV]
    clear hg1 hg2 hV hVB
    go_loopw [20, 7, 8, 9] (fun i z1 z2 z3 wr => ∃ (q : Nat) (u1 u2 u3 : Value), q ≤ 4 ∧ i = .int .i64 q ∧ z1 = u1 ∧ z2 = u2 ∧ z3 = u3 ∧ NdBox wr g2 (mix ⟨x.lv - 1, 0, 0, 0, 0⟩ (innN l x) q) ∧ V.grownBy wr (some g2) ∧ ∀ j, j < q → quaB l x j = true) (fun i _ _ _ _ => 4 - (intOf i).toNat)
    case atStart => exact ⟨0, _, _, _, by omega, rfl, rfl, rfl, rfl, HH.out, gb_refl _ _, fun j hj => by omega⟩
    case round =>
      obtain ⟨q, u1, u2, u3, hq, rfl, rfl, rfl, rfl, hbx, hgr, hall⟩ := hrel
      have HBQ := Lib.hid hbx
      have HGR := Lib.hid hgr
      have HAL := Lib.hid hall
      have HZ := Lib.hid (HZV.out.stay (hgr.block g1 HZV.out.lt (fun e => by have := HG1.out.2; have h3 : g1 = g2 := Option.some.inj e; omega)))
      clear hbx hgr hall
      by_cases hq4 : q < 4
      · have hi := index4 x q hq4
        have hfk := fit_kid HX.out hq4
        obtain ⟨y, hy⟩ : ∃ y, y = x.kid q := ⟨_, rfl⟩
        rw [← hy] at hi hfk
        have HY := Lib.hid hy
        have i2 : (q : Int) < 4 := by omega
        rcases kid_up h1 hfk with rfl | ⟨r, rfl, hr, hrl⟩
        · have hz : innK l x q = 0 := by unfold innK; rw [← hy, if_pos rfl]
          have hqa : quaB l x q = true := by unfold quaB; rw [← hy]; rfl
          have HQA := Lib.hid hqa
          have HZ0 := Lib.hid hz
          clear hy hfk hz hqa
          go_wp2_with fail
          go_roundw
          case rel =>
            refine ⟨q + 1, _, _, _, by omega, by go_num, rfl, rfl, rfl, ?_, HGR.out, fun j hj => ?_⟩
            · rw [mix_skip hq4 (by rw [innN_kid _ _ hq4, HZ0.out]; match q, hq4 with
                | 0, _ => rfl
                | 1, _ => rfl
                | 2, _ => rfl
                | 3, _ => rfl)]
              exact HBQ.out
            · rcases Nat.lt_or_ge j q with h2 | h2
              · exact HAL.out j h2
              · rw [show j = q by omega]; exact HQA.out
          case measure => simp [intOf]; omega
        · have hrn : r < n := by rw [← HL.out]; exact hr
          obtain ⟨b, off, rfl, hb, hc⟩ := HNV.out.at_ (by omega)
          have hbw : b < w.heap.size := HABL.out _ (by omega) rfl
          have hbg : b ≠ g2 := by have := HG1.out; omega
          have hcr := (hc r hr).below (HGR.out.block b hb (fun e => hbg (Option.some.inj e)))
          obtain ⟨k2, hk2⟩ : ∃ k2, k2 = 3 - q := ⟨_, rfl⟩
          have hk24 : k2 < 4 := by omega
          have hzc := hcr.kid hk24
          have hinn : innK l x q = (at_ l r).kid k2 := by
            unfold innK
            rw [← hy, if_neg (by omega), show ((r : Int) + 1).toNat - 1 = r by omega, hk2]
          have hqa : quaB l x q = midB (at_ l r) k2 := by
            unfold quaB
            rw [← hy, beq_eq_false_iff_ne.2 (show (r : Int) + 1 ≠ 0 by omega), Bool.false_or, show ((r : Int) + 1).toNat - 1 = r by omega, hk2]
          have hwr := fit_wf (loose_fit HLL.out hr) (by rw [HL.out]; omega)
          obtain ⟨z, hz⟩ : ∃ z, z = at_ l r := ⟨_, rfl⟩
          rw [← hz] at hzc hcr hinn hqa hwr
          have HIN := Lib.hid hinn
          have HQA := Lib.hid hqa
          have HWR := Lib.hid hwr
          have t2 : ((r : Int) + 1 == 0) = false := beq_eq_false_iff_ne.2 (by omega)
          have i3 : (r : Int) < (n : Int) := by omega
          have e3 : (3 : Int) - (q : Int) = (k2 : Int) := by omega
          have i4 : (k2 : Int) < 4 := by omega
          obtain ⟨U, hU⟩ : ∃ U : World, U = wr.alloc (.cells #[.int .i64 0, .int .i64 0, .int .i64 0, .int .i64 0] 36) := ⟨_, rfl⟩
          obtain ⟨U1, hU1⟩ : ∃ U1 : World, U1 = U.setCell ⟨g2, 1 + q, none⟩ (.int .i64 (z.kid k2)) := ⟨_, rfl⟩
          obtain ⟨U2, hU2⟩ : ∃ U2 : World, U2 = U1.setCell ⟨wr.heap.size, k2, none⟩ (.int .i64 (z.kid k2)) := ⟨_, rfl⟩
          have bU : Below wr.heap.size wr U := by rw [hU]; exact (Below.refl _ _).alloc (Nat.le_refl _) _
          have hg2m : g2 < wr.heap.size := HBQ.out.lt
          have hbm : b < wr.heap.size := Nat.lt_of_lt_of_le hb HGR.out.size
          have mU : FrBox U wr.heap.size nd0 := by rw [hU]; exact FrBox.new wr nd0
          have xU := HBQ.out.stay (bU.block g2 hg2m)
          have yU := hcr.below (bU.block b hbm)
          have xU1 : NdBox U1 g2 (mix ⟨x.lv - 1, 0, 0, 0, 0⟩ (innN l x) (q + 1)) := by rw [hU1]; exact xU.setKid hq4 (by omega) (by rw [innN_kid _ _ hq4, hinn])
          have mU1 : FrBox U1 wr.heap.size nd0 := mU.stay (by rw [hU1]; exact Below.heap_setCell _ _ _ _ (show wr.heap.size ≠ g2 by omega))
          have yU1 : NdAt U1 b (off + r * 5) z := yU.below (by rw [hU1]; exact Below.heap_setCell _ _ _ _ hbg)
          have mU2 : FrBox U2 wr.heap.size (midN z k2) := by rw [hU2]; exact mU1.setMid hk24 rfl
          have yU2 : NdAt U2 b (off + r * 5) z := yU1.below (by rw [hU2]; exact Below.heap_setCell _ _ _ _ (show b ≠ wr.heap.size by omega))
          have xU2 : NdBox U2 g2 (mix ⟨x.lv - 1, 0, 0, 0, 0⟩ (innN l x) (q + 1)) := xU1.stay (by rw [hU2]; exact Below.heap_setCell _ _ _ _ (show g2 ≠ wr.heap.size by omega))
          have gU2 : V.grownBy U2 (some g2) := by
            refine gb_trans HGR.out ?_
            rw [hU2, hU1]
            refine ⟨bU.os, bU.tape, bU.output, by simpa [World.setCell] using bU.size, fun i hi hne => ?_⟩
            rw [Below.heap_setCell _ _ _ _ (show i ≠ wr.heap.size by omega), Below.heap_setCell _ _ _ _ (fun e => hne (by subst e; rfl))]
            exact bU.block i hi
          have HXU := Lib.hid xU2
          have HGU := Lib.hid gU2
          have HZU := Lib.hid (HZ.out.stay ((hgu_help gU2 HGR.out (by have := HG1.out.2; intro e; have h3 : g1 = g2 := Option.some.inj e; omega) HZV.out.lt)))
          have k1 := yU.kid hk24
          have k2' := xU.at_.kid hq4
          have k3 := xU.free (1 + q)
          have k4 := xU1.at_.kid hq4
          rw [mix_kid _ _ _ hq4, if_pos (Nat.lt_succ_self q), innN_kid _ _ hq4, hinn] at k4
          have k5 := mU1.cell hk24
          have k6 := mU1.free k2
          have k7 := mU.free k2
          have k8 := mU.cell hk24
          obtain ⟨m1, m2, m3, m4⟩ := mU2.at_
          obtain ⟨-, d2, d3, d4, d5⟩ := yU2
          rw [show 0 + 1 + q = 1 + q by omega] at k2' k4
          have hne4 := neq_same4 (midN z k2) z (mid_wf hwr k2) hwr
          rw [mid_same z hk24] at hne4
          clear hy hfk hinn hqa hwr hz hc hcr hk2 bU hg2m hbm mU xU yU xU1 mU1 yU1 mU2 xU2 gU2
          have HU2 := Lib.hid (show U2 = ((wr.alloc (.cells #[.int .i64 0, .int .i64 0, .int .i64 0, .int .i64 0] 36)).setCell ⟨g2, 1 + q, none⟩ (.int .i64 (z.kid k2))).setCell ⟨wr.heap.size, k2, none⟩ (.int .i64 (z.kid k2)) by rw [hU2, hU1, hU])
          subst hU1
          subst hU
          clear hU2
          generalize hzk : z.kid k2 = zk at *
          cases hmb : midB z k2 with
          | true =>
            have HMB := Lib.hid hmb
            rw [hmb] at hne4
            clear hmb
            go_wp2_with fail
            rw [← HU2.out]
            go_quiet (fail)
            go_wp2_with fail
            go_roundw
            case rel =>
              refine ⟨q + 1, _, _, _, by omega, by go_num, rfl, rfl, rfl, HXU.out, grown_drewN HGU.out _, fun j hj => ?_⟩
              rcases Nat.lt_or_ge j q with h2 | h2
              · exact HAL.out j h2
              · rw [show j = q by omega]; exact HQA.out.trans HMB.out
            case measure => simp [intOf]; omega
          | false =>
            have HMB := Lib.hid hmb
            rw [hmb] at hne4
            clear hmb
            obtain ⟨c1, c2, c3, c4, c5⟩ := HZU.out.at_
            have z1 := HZU.out.free 0
            have z2 := HZU.out.free 1
            have z3 := HZU.out.free 2
            have z4 := HZU.out.free 3
            have z5 := HZU.out.free 4
            go_wp2_with fail
            rw [← HU2.out]
            go_quiet (fail)
            go_wp2_with fail
            generalize hF : World.setCell _ _ _ = F
            have hbF : NdBox F g1 nd0 := by rw [← hF]; exact NdBox.put (w := U2.drewN nq) HZU.out nd0
            have hwF : Below w.heap.size w F := by rw [← hF]; exact put_below (below_drewN' (HVW.out.grown HGU.out HVW.out.size (fun k hk => by cases hk; have := HG1.out; omega)) nq) (by have := HG1.out; omega) nd0
            obtain ⟨e1, e2, e3, e4, e5⟩ := hbF.at_
            refine bodyPost_ret (v := .tuple #[ndv nd0, .bool false]) (by simp [results, Try.results25, go_sem, e1, e2, e3, e4, e5]) rfl ⟨?_, hwF⟩
            rw [HR.out, holB_no (l := l) (x := x) hq4 (HQA.out.trans HMB.out), halfN_no (holB_no (l := l) (x := x) hq4 (HQA.out.trans HMB.out))]
      · have hq5 : q = 4 := by omega
        subst hq5
        rw [mix_four (show (⟨x.lv - 1, 0, 0, 0, 0⟩ : Nd).lv = (innN l x).lv from rfl)] at HBQ
        have hyes := holB_yes (l := l) (x := x) (by omega) (fun j hj => HAL.out j hj)
        have HYE := Lib.hid hyes
        obtain ⟨f1, f2, f3, f4, f5⟩ := HBQ.out.at_
        obtain ⟨y, hy⟩ : ∃ y, y = innN l x := ⟨_, rfl⟩
        rw [← hy] at f1 f2 f3 f4 f5
        have HY := Lib.hid hy
        obtain ⟨c1, c2, c3, c4, c5⟩ := HZ.out.at_
        have z1 := HZ.out.free 0
        have z2 := HZ.out.free 1
        have z3 := HZ.out.free 2
        have z4 := HZ.out.free 3
        have z5 := HZ.out.free 4
        clear hyes hy
        go_wp2_with fail
        generalize hF : World.setCell _ _ _ = F
        have hbF : NdBox F g1 y := by rw [← hF]; exact NdBox.put (w := wr) HZ.out y
        have hwF : Below w.heap.size w F := by rw [← hF]; exact put_below (HVW.out.grown HGR.out HVW.out.size (fun k hk => by cases hk; have := HG1.out; omega)) (by have := HG1.out; omega) y
        obtain ⟨e1, e2, e3, e4, e5⟩ := hbF.at_
        refine bodyPost_ret (v := .tuple #[ndv y, .bool true]) (by simp [results, Try.results25, go_sem, e1, e2, e3, e4, e5]) rfl ⟨?_, hwF⟩
        rw [HR.out, HYE.out, halfN_yes HYE.out, HY.out]
end Go.Proofs.Ytbcolelgbbmjkaa
