/-
  canon: Grow, of a node with one quarter.
-/
import Derived.Test.YtbcolelgbbmjkaaNcNe
import Derived.LoopN

namespace Go.Proofs.Ytbcolelgbbmjkaa
set_option linter.unusedVariables false
set_option linter.unusedSimpArgs false
open Go.RowKit Nds
/-- What is added for a node whose one quarter is the last. -/
def wideL (l : List Nd) (v d : Int) : List Nd := l ++ [⟨v, d, 0, 0, 0⟩] ++ [⟨v + 1, 0, 0, 0, (l.length : Int) + 1⟩]
theorem grow_box {w w6 : World} {base : Nat} {v : Value} {l : List Nd} {x : Nd} {o1 o2 o3 : Obj} (h : OwnN w base v l) (hg : ((((w.alloc o1).alloc (.cells #[.int .i64 x.lv, .int .i64 x.a, .int .i64 x.b, .int .i64 x.c, .int .i64 x.d] 38)).alloc o2).alloc o3).grownBy w6 v.ownBlock) : NdBox w6 (w.heap.size + 1) x := by
  have h1 := NdBox.new (w.alloc o1) x
  rw [show (w.alloc o1).heap.size = w.heap.size + 1 by simp] at h1
  have h2 := h1.stay (Below.heap_alloc _ o2 _ h1.lt)
  have h3 := h2.stay (Below.heap_alloc _ o3 _ h2.lt)
  exact h3.stay (hg.block _ h3.lt (fun e => by have := (h.lt _ e.symm).2; omega))
theorem grow_apart {w : World} {base : Nat} {v v' : Value} {l : List Nd} {o1 o2 o3 o4 : Obj} (h : OwnN w base v l) (hk6 : v'.ownBlock = v.ownBlock ∨ v'.ownBlock = some ((((w.alloc o1).alloc o2).alloc o3).alloc o4).heap.size) : ∀ k, v'.ownBlock = some k → w.heap.size + 1 = k → False := by
  intro k hk e
  rcases hk6 with h1 | h1
  · have := (h.lt k (h1.symm.trans hk)).2
    omega
  · rw [h1] at hk
    simp at hk
    omega
theorem grow_below {w w6 : World} {base : Nat} {v : Value} {l : List Nd} {o1 o2 o3 o4 : Obj} (h : OwnN w base v l) (hg : ((((w.alloc o1).alloc o2).alloc o3).alloc o4).grownBy w6 v.ownBlock) (hb : base ≤ w.heap.size) : Below base w w6 :=
  (((((Below.refl base w).alloc hb _).alloc (by simp; omega) _).alloc (by simp; omega) _).alloc (by simp; omega) _).grown hg (by simp; omega) (fun k hk => (h.lt k hk).1)
set_option maxRecDepth 100000 in
set_option maxHeartbeats 3200000 in
theorem wider_one (n base : Nat) (u d : Int) (val : Value) (l : List Nd) (w : World) (h : OwnN w base val l) (hn : l.length = n) (hn9 : n ≤ 900000) (h0 : 0 < n) (hx : at_ l (n - 1) = ⟨u, 0, 0, 0, d⟩) (hu : 1 ≤ u ∧ u ≤ 1328) (hd : 1 ≤ d ∧ d ≤ 900000) (hb : base ≤ w.heap.size) :
    Calls Try.prog 23 #[val] w fun e w' => ∃ v, e = .returned v ∧ OwnN w' base v (wideL l u d) ∧ Below base w w' := by
  obtain ⟨A, c, rfl, hns, -, -⟩ := h.shape
  have hcap := hns.cap
  rw [hn] at hcap ⊢
  obtain ⟨p, rfl⟩ : ∃ p, n = p + 1 := ⟨n - 1, by omega⟩
  rw [show p + 1 - 1 = p by omega] at hx
  obtain ⟨b, off, rfl, hbl, hc⟩ := hns.at_ (by omega)
  obtain ⟨c1, c2, c3, c4, c5⟩ := hc p (by omega)
  rw [hx] at c1 c2 c3 c4 c5
  simp only at c1 c2 c3 c4 c5
  rw [hn] at h
  have HO := Lib.hid h
  have HL := Lib.hid hn
  have t1 : (d == 0) = false := beq_eq_false_iff_ne.2 (by omega)
  have i1 : (p : Int) < (p : Int) + 1 := by omega
  have j0 := index4_0 0 0 0 d
  have j1 := index4_1 0 0 0 d
  have j2 := index4_2 0 0 0 d
  have j3 := index4_3 0 0 0 d
  have q0 : True := trivial
  have hwc : Nd.wf ⟨u, d, 0, 0, 0⟩ := ⟨⟨by show _ ≤ u; omega, by show u ≤ _; omega⟩, ⟨by show _ ≤ d; omega, by show d ≤ _; omega⟩, in64_0, in64_0, in64_0⟩
  have hww : Nd.wf ⟨u + 1, 0, 0, 0, (p : Int) + 1 + 1⟩ := ⟨⟨by show _ ≤ u + 1; omega, by show u + 1 ≤ _; omega⟩, in64_0, in64_0, in64_0, ⟨by show _ ≤ (p : Int) + 1 + 1; omega, by show (p : Int) + 1 + 1 ≤ _; omega⟩⟩
  have HWC := Lib.hid hwc
  have HWW := Lib.hid hww
  clear h hn hns hc hx h0 hwc hww
  go_enter Try.func23, Try.ntmps23
  go_wp2_with fail
  refine wp_loop_rounds 5 ?_
  rw [rounds_succ]
  go_wp2_with fail
  rw [rounds_succ]
  go_wp2_with fail
  rw [rounds_succ]
  go_wp2_with fail
  rw [rounds_succ]
  have hl1 : (l ++ [(⟨u, d, 0, 0, 0⟩ : Nd)]).length = p + 1 + 1 := by rw [List.length_append, HL.out]; rfl
  have HL1 := Lib.hid hl1
  clear hl1 c1 c2 c3 c4 c5
  go_wp2_with (at_builtin; go_loud (refine wpList_append_nodes _ rfl _ _ rfl base _ l [⟨u, d, 0, 0, 0⟩] _ 1 1 rfl rfl ((((HO.out.alloc _).alloc _).alloc _).alloc _) (ns_lit1 _ _ ⟨u, d, 0, 0, 0⟩ HWC.out (by simp)) rfl (fun e => by cases e) (by rw [HL.out]; omega) (by simp; omega) ?_; intro v6 w6 ho6 hg6 hk6; obtain ⟨A6, c6, hv6, -, -, -⟩ := ho6.shape; rw [HL1.out] at hv6; subst hv6; have HO6 := Lib.hid ho6; have HG6 := Lib.hid (show World.grownBy _ w6 (Value.slice (some ⟨b, off, none⟩) (p + 1) c).ownBlock from hg6); have HK6 := Lib.hid (show (Value.slice A6 (p + 1 + 1) c6).ownBlock = (Value.slice (some ⟨b, off, none⟩) (p + 1) c).ownBlock ∨ (Value.slice A6 (p + 1 + 1) c6).ownBlock = some (World.alloc _ _).heap.size from hk6); have hwb := grow_box (x := ⟨u + 1, 0, 0, 0, 0⟩) HO.out HG6.out; have HWB := Lib.hid hwb; obtain ⟨d1, d2, d3, d4, d5⟩ := hwb.at_; have fz := hwb.free 4; clear ho6 hg6 hk6 hwb))
  have HU := Lib.hid (show NdBox (w6.setCell ⟨w.heap.size + 1, 4, none⟩ (.int .i64 ((p : Int) + 1 + 1))) (w.heap.size + 1) ⟨u + 1, 0, 0, 0, (p : Int) + 1 + 1⟩ from (heap_setCell_same _ _ 4 _ _ _ HWB.out).trans rfl)
  obtain ⟨e1, e2, e3, e4, e5⟩ := HU.out.at_
  have HBW := Lib.hid (grow_below HO.out HG6.out hb)
  have HOU := Lib.hid (HO6.out.gbr (gb_setCell w6 ⟨w.heap.size + 1, 4, none⟩ (.int .i64 ((p : Int) + 1 + 1))) (own_dec fun k hk e => grow_apart HO.out HK6.out k hk (Option.some.inj e)))
  clear d1 d2 d3 d4 d5 fz
  rw [rounds_succ]
  go_wp2_with (at_builtin; go_loud (refine wpList_append_nodes _ rfl _ _ rfl base _ _ [⟨u + 1, 0, 0, 0, (p : Int) + 1 + 1⟩] _ 1 1 rfl rfl (HOU.out.alloc _) (ns_lit1 _ _ ⟨u + 1, 0, 0, 0, (p : Int) + 1 + 1⟩ HWW.out (by simp [World.setCell])) rfl (fun e => by cases e) (by rw [HL1.out]; omega) (by have := HBW.out.size; simp [World.setCell]; omega) ?_; intro v7 w7 ho7 hg7 hk7; have HO7 := Lib.hid ho7; have HG7 := Lib.hid hg7; clear ho7 hg7 hk7))
  go_ret
  refine ⟨v7, rfl, ?_, ?_⟩
  · have h1 := HO7.out
    unfold wideL
    rw [HL.out, show ((p + 1 : Nat) : Int) + 1 = (p : Int) + 1 + 1 by omega]
    exact h1
  · exact ((HBW.out.setCell (show base ≤ w.heap.size + 1 by omega) _).alloc (by have := HBW.out.size; simp [World.setCell]; omega) _).grown HG7.out (by have := HBW.out.size; simp [World.setCell]; omega) (fun k hk => (HOU.out.lt k hk).1)
theorem own_last {w : World} {base n : Nat} {v : Value} {l : List Nd} (h : OwnN w base v l) (hn : l.length = n + 1) :
    ∃ A c g off, v = .slice (some ⟨g, off, none⟩) (n + 1) c ∧ w.cell? ⟨g, off + n * 5, none⟩ = some (.int .i64 (at_ l n).lv) ∧ (n + 1 ≤ c ∧ A = some (⟨g, off, none⟩ : Addr)) := by
  obtain ⟨A, c, hv, hns, -, -⟩ := h.shape
  have hcap := hns.cap
  obtain ⟨g, off, rfl, -, hc⟩ := hns.at_ (by omega)
  exact ⟨_, c, g, off, by rw [hv, hn], (hc n (by omega)).1, by omega, rfl⟩
/-- A node of level 1 with one cell, grown to level 3. -/
def grown6 : List Nd := [⟨1, 0, 0, 0, 1⟩, ⟨1, 1, 0, 0, 0⟩, ⟨2, 0, 0, 0, 2⟩, ⟨2, 2, 0, 0, 0⟩, ⟨3, 0, 0, 0, 4⟩]
set_option maxRecDepth 100000 in
set_option maxHeartbeats 3200000 in
theorem grow_one (A : Option Addr) (c : Nat) (w : World) (h : Ns w A c one5) :
    Calls Try.prog 13 #[.agg #[.slice A 1 c], .int .i64 3] w fun e w' => ∃ A' c', e = .returned (.tuple #[.slice A' 5 c', .int .i64 5]) ∧ Ns w' A' c' grown6 ∧ (A' = none → c' = 0) ∧ Below w.heap.size w w' := by
  have hcap := h.cap
  have hc1 : 1 ≤ c := hcap.1
  have hA : A = none → c = 0 := fun e => by
    obtain ⟨b, off, e2, _⟩ := h.at_ (by decide)
    rw [e] at e2
    cases e2
  have hb := (Below.refl w.heap.size w).alloc (Nat.le_refl _) (.cells #[.slice A 1 c] 25)
  have HB := Lib.hid hb
  have HN := Lib.hid (h.below hb)
  have HA := Lib.hid hA
  have q0 : True := trivial
  clear h hb hA
  go_enter Try.func13, Try.ntmps13
  go_wp2_with (go_at_call 22; go_loud (refine (clone_any _ _ 1 one5 _ HN.out rfl (by omega) HA.out).mono ?_; rintro e w1 ⟨v, rfl, o1, b1⟩; have HB1 := Lib.hid (HB.out.trans (b1.mono HB.out.size)); obtain ⟨A1, c1, g, off, hv, d1, hcc⟩ := own_last (n := 0) (o1.mono HB.out.size) rfl; have d1' : w1.cell? ⟨g, off, none⟩ = some (.int .i64 1) := d1; have HO1 := Lib.hid (o1.mono HB.out.size); have hcc1 : 1 ≤ c1 := hcc.1; subst hv; clear o1 b1 d1 hcc))
  refine wp_loop_rounds 3 ?_
  rw [rounds_succ]
  go_wp2_with (go_at_call 23; go_loud (refine (wider_one 1 w.heap.size 1 1 _ one5 _ HO1.out rfl (by omega) (by omega) rfl (by omega) (by omega) HB1.out.size).mono ?_; rintro e w2 ⟨v2, rfl, o2, b2⟩; have HB2 := Lib.hid (HB1.out.trans b2); obtain ⟨A2, c2, g2, off2, hv2, d2, hcc2⟩ := own_last (n := 2) o2 rfl; have d2' : w2.cell? ⟨g2, off2 + 10, none⟩ = some (.int .i64 2) := d2; have HO2 := Lib.hid o2; have hcc3 : 3 ≤ c2 := hcc2.1; subst hv2; clear o2 b2 d2 hcc2))
  rw [rounds_succ]
  go_wp2_with (go_at_call 23; go_loud (refine (wider_one 3 w.heap.size 2 2 _ (wideL one5 1 1) _ HO2.out rfl (by omega) (by omega) rfl (by omega) (by omega) HB2.out.size).mono ?_; rintro e w3 ⟨v3, rfl, o3, b3⟩; have HB3 := Lib.hid (HB2.out.trans b3); obtain ⟨A3, c3, g3, off3, hv3, d3, hcc3'⟩ := own_last (n := 4) o3 rfl; have d3' : w3.cell? ⟨g3, off3 + 20, none⟩ = some (.int .i64 3) := d3; have HO3 := Lib.hid o3; have hcc5 : 5 ≤ c3 := hcc3'.1; subst hv3; clear o3 b3 d3 hcc3'))
  rw [rounds_succ]
  go_wp2_with fail
  go_ret2
  obtain ⟨A7, c7, hv7, hn7, hA7, -⟩ := HO3.out.shape
  injection hv7 with e1 e2 e3
  subst e1
  subst e3
  exact ⟨_, _, rfl, hn7, hA7, HB3.out⟩
end Go.Proofs.Ytbcolelgbbmjkaa
