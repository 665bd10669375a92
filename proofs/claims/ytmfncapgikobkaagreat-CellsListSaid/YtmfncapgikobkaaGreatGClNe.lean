/-
  cells: the builder's number of a node: known, or put behind the others.
  cells: the tree of a list of cells, by quarters; plain.
  cells: where a node's next quarter begins (node's closure, sort.Search).
  cells: how a builder's node goes through the quarters of its cells; plain.
  cells: the builder's node: quarter by quarter.
  cells: the builder's node above the cells: the recursion.
-/
import Derived.Test.YtmfncapgikobkaaGreatGNcOr
import Derived.Test.YtmfncapgikobkaaGreatGNcPB
import Derived.Deep.QuietTactic
import Derived.BigQuiet
import Derived.Deep.RegionHeld3
import Derived.Test.YtmfncapgikobkaaGreatGClLe
import Derived.Test.YtmfncapgikobkaaGreatGClPb
import Derived.Test.YtmfncapgikobkaaGreatGNcRA
import Derived.Test.YtmfncapgikobkaaGreatLay0

namespace Go.Proofs.YtmfncapgikobkaaGreat
set_option maxRecDepth 100000
set_option linter.unusedVariables false
set_option linter.unusedSimpArgs false
open Go.RowKit Nds
structure Bd (W : World) (base bb bm : Nat) (v : Value) (out : List Nd) : Prop where
 bx : W.heap[bb]? = some (.cells #[v, .map (some bm)] 96)
 o : OwnN W base v out
 k : KM W bm out
theorem Bd.c0 {W : World} {base bb bm : Nat} {v : Value} {out : List Nd} (h : Bd W base bb bm v out) : W.cell? ⟨bb, 0, none⟩ = some v := by
 rw [cell_of_row W bb _ _ _ _ h.bx]; rfl
theorem Bd.c1 {W : World} {base bb bm : Nat} {v : Value} {out : List Nd} (h : Bd W base bb bm v out) : W.cell? ⟨bb, 1, none⟩ = some (.map (some bm)) := by
 rw [cell_of_row W bb _ _ _ _ h.bx]; rfl
theorem Bd.free {W : World} {base bb bm : Nat} {v : Value} {out : List Nd} (h : Bd W base bb bm v out) (k : Nat) : W.frozen? ⟨bb, k, none⟩ = false := frozen_of_row W bb k _ _ h.bx
theorem Bd.lt {W : World} {base bb bm : Nat} {v : Value} {out : List Nd} (h : Bd W base bb bm v out) : bb < W.heap.size := (Array.getElem?_eq_some_iff.1 h.bx).1
theorem Bd.next {W W1 : World} {base bb bm : Nat} {v : Value} {out : List Nd} (h : Bd W base bb bm v out) (k : Below W.heap.size W W1) : Bd W1 base bb bm v out :=
 ⟨(k.block bb h.lt).trans h.bx, h.o.gbr ⟨k.os, k.tape, k.output, k.size, fun i hi _ => k.block i hi⟩ (row := none) (by cases v.ownBlock <;> simp), h.k.stay (k.block bm h.k.lt)⟩
def BdP (bb bm : Nat) (v : Value) : Nat → Prop := fun k => k = bb ∨ k = bm ∨ v.ownBlock = some k
theorem oper_store_km {w : World} {o : Oper} {a : Act} {K : Act → World → Prop} {Q : Exit → Act → World → Prop} (m x v : Operand)
  (hop : o.op = Op.mapUpdate 94 m x v) (b : Nat) (out : List Nd) (y : Nd) (u : Int)
  (hm : a.eval m = .map (some b)) (hx : a.eval x = ndv y) (hv : a.eval v = .int .i64 u) (hu : u = (out.length : Int) + 1) (hown : KM w b out) (hS : ∀ y ∈ out, y.wf) (hy : y.wf) (hf : fnd out y = 0)
  (h : ∀ w', KM w' b (out ++ [y]) → w.grownBy w' (some b) → K (a.put o.dst undef) w') : Oper.wp Tryz.prog o a w K Q := by
 subst hu
 obtain ⟨w', hrun, r1, r2⟩ := hown.putK hS y hy hf
 unfold Oper.wp
 simp [execOp, hop, hm, hx, hv, hrun, Result.andThen]
 exact h w' r1 r2
structure Bd_ (W : World) (base bb bm : Nat) (v : Value) (out : List Nd) (x : Nd) : Prop where
 bx : W.heap[bb]? = some (.cells #[v, .map (some bm)] 96)
 o : OwnN W base v (out ++ [x])
 k : KM W bm out
theorem Bd_.c0 {W : World} {base bb bm : Nat} {v : Value} {out : List Nd} {x : Nd} (h : Bd_ W base bb bm v out x) : W.cell? ⟨bb, 0, none⟩ = some v := by
 rw [cell_of_row W bb _ _ _ _ h.bx]; rfl
theorem Bd_.c1 {W : World} {base bb bm : Nat} {v : Value} {out : List Nd} {x : Nd} (h : Bd_ W base bb bm v out x) : W.cell? ⟨bb, 1, none⟩ = some (.map (some bm)) := by
 rw [cell_of_row W bb _ _ _ _ h.bx]; rfl
theorem Bd_.lt {W : World} {base bb bm : Nat} {v : Value} {out : List Nd} {x : Nd} (h : Bd_ W base bb bm v out x) : bb < W.heap.size := (Array.getElem?_eq_some_iff.1 h.bx).1
def RetNu (base bb bm : Nat) (v : Value) (r : List Nd × Nat) (w : World) (e : Ending) (w' : World) : Prop :=
 ∃ v', e = .returned (.int .i64 (r.2 : Int)) ∧ Bd w' base bb bm v' r.1 ∧ (∀ k, v'.ownBlock = some k → v.ownBlock = some k ∨ w.heap.size ≤ k) ∧ Ky (BdP bb bm v) w w'
set_option maxRecDepth 100000 in
set_option maxHeartbeats 6400000 in
theorem number_any (base bb bm : Nat) (v : Value) (out : List Nd) (x : Nd) (w : World) (h : Bd w base bb bm v out) (hg : GoodL out) (hx : x.wf) (hd : bb ≠ bm) (hb : bb < base ∧ bm < base) (hbs : base ≤ w.heap.size) (hlen : out.length ≤ 900000) :
  Calls Tryz.prog 89 #[.pointer (some ⟨bb, 0, none⟩), ndv x] w (RetNu base bb bm v (add out x) w) := by
 obtain ⟨W, hW⟩ : ∃ W : World, W = w.alloc (.cells #[.int .i64 x.lv, .int .i64 x.a, .int .i64 x.b, .int .i64 x.c, .int .i64 x.d] 56) := ⟨_, rfl⟩
 have hB : Below w.heap.size w W := by rw [hW]; exact (Below.refl _ w).alloc (Nat.le_refl _) _
 have hbd : Bd W base bb bm v out := h.next hB
 have hxb : NdBox W w.heap.size x := by rw [hW]; exact NdBox.new w x
 obtain ⟨c1, c2, c3, c4, c5⟩ := hxb.at_
 have d0 := hbd.c0
 have d1 := hbd.c1
 have hlk := fun nq => (hbd.next (below_drewN (Below.refl _ W) nq)).k.lookK hg h.o.1 x hx
 obtain ⟨f, hf⟩ : ∃ f, f = fnd out x := ⟨_, rfl⟩
 rw [← hf] at hlk
 have HF := Lib.hid hf
 have HW := Lib.hid hW
 have HB := Lib.hid hB
 have HBD := Lib.hid hbd
 have HXB := Lib.hid hxb
 have HH := Lib.hid h
 rw [hW] at c1 c2 c3 c4 c5 d0 d1 hlk
 clear h hW hB hbd hxb hf
 by_cases hz : f = 0
 ·
  subst hz
  go_enter Tryz.func89, Tryz.ntmps89
  go_wp2_with fail
  go_quiet (fail)
  go_wp2_with fail
  have HF := Lib.hid (show (0 : Nat) = fnd out x from HF.out)
  obtain ⟨gx, hgx⟩ : ∃ gx, gx = w.heap.size := ⟨_, rfl⟩
  have HGX := Lib.hid hgx
  rw [← hgx]
  have HXB' := Lib.hid (show NdBox W gx x by rw [hgx]; exact HXB.out)
  clear hgx c1 c2 c3 c4 c5 d0 d1 hlk
  refine wp_region_noPanic ?_
  refine wp_region_held (S := fun w' => w'.cell? ⟨gx, 0, none⟩ = some (.int .i64 x.lv) ∧ w'.cell? ⟨gx, 1, none⟩ = some (.int .i64 x.a) ∧ w'.cell? ⟨gx, 2, none⟩ = some (.int .i64 x.b) ∧ w'.cell? ⟨gx, 3, none⟩ = some (.int .i64 x.c) ∧ w'.cell? ⟨gx, 4, none⟩ = some (.int .i64 x.d)) (by kernel_rfl) ?_
  obtain ⟨W0, hW0⟩ : ∃ W0 : World, W0 = ((w.alloc (.cells #[.int .i64 x.lv, .int .i64 x.a, .int .i64 x.b, .int .i64 x.c, .int .i64 x.d] 56)).drewN nq).drew := ⟨_, rfl⟩
  have hb0 : Below W.heap.size W W0 := by rw [hW0, ← HW.out]; exact below_drewN (below_drewN (Below.refl _ W) nq) 1
  have B0 := Lib.hid (HBD.out.next hb0)
  have X0 := Lib.hid (HXB'.out.stay (hb0.block gx HXB'.out.lt))
  have L0 := Lib.hid (HB.out.trans (hb0.mono HB.out.size))
  have hS0 := X0.out.at_
  change wpAnyH _ _ _ _ _ _ _ _ ((w.alloc (.cells #[.int .i64 x.lv, .int .i64 x.a, .int .i64 x.b, .int .i64 x.c, .int .i64 x.d] 56)).drewN nq).drew
  rw [← hW0]
  clear hW0 hb0
  refine wpAnyH_take (i := 0) (v := ?_) rfl (by kernel_rfl) (by kernel_rfl) (by kernel_rfl) (fun _ _ _ h => h) (Or.inl ⟨by rfl, ?_⟩) hS0 ?_
  rotate_left
  ·
   rintro w' ⟨s1, s2, s3, s4, s5⟩
   go_simp
   first | done | with_reducible rfl | rfl
  simp only [Act.put, LA]
  refine wpAnyH_take (i := 1) (v := ?_) rfl (by kernel_rfl) (by kernel_rfl) (by kernel_rfl) (fun _ _ _ h => h) (Or.inl ⟨by rfl, ?_⟩) hS0 ?_
  rotate_left
  ·
   rintro w' ⟨s1, s2, s3, s4, s5⟩
   go_simp
   first | done | with_reducible rfl | rfl
  simp only [Act.put, LA]
  refine wpAnyH_take (i := 2) (v := ?_) rfl (by kernel_rfl) (by kernel_rfl) (by kernel_rfl) (fun _ _ _ h => h) (Or.inl ⟨by rfl, ?_⟩) hS0 ?_
  rotate_left
  ·
   rintro w' ⟨s1, s2, s3, s4, s5⟩
   go_simp
   first | done | with_reducible rfl | rfl
  simp only [Act.put, LA]
  refine wpAnyH_take (i := 3) (v := ?_) rfl (by kernel_rfl) (by kernel_rfl) (by kernel_rfl) (fun _ _ _ h => h) (Or.inl ⟨by rfl, ?_⟩) hS0 ?_
  rotate_left
  ·
   rintro w' ⟨s1, s2, s3, s4, s5⟩
   go_simp
   first | done | with_reducible rfl | rfl
  simp only [Act.put, LA]
  refine wpAnyH_take (i := 5) (v := ?_) rfl (by kernel_rfl) (by kernel_rfl) (by kernel_rfl) (fun _ _ _ h => h) (Or.inl ⟨by rfl, ?_⟩) hS0 ?_
  rotate_left
  ·
   rintro w' ⟨s1, s2, s3, s4, s5⟩
   go_simp
   first | done | with_reducible rfl | rfl
  simp only [Act.put, LA]
  refine wpAnyH_ready (rs := [4, 6]) (by kernel_rfl) (by simp) (AllReadyH.cons rfl (fun K hK => ?_) (AllReadyH.cons rfl (fun K hK => ?_) AllReadyH.nil))
  ·
   have q0 := B0.out.c0
   go_simp
   refine hK.out _ _ X0.out.at_ (fun _ => ?_)
   clear hK K q0
   refine wpAnyH_ready (rs := [6]) (by kernel_rfl) (by simp) (AllReadyH.cons rfl (fun K hK => ?_) AllReadyH.nil)
   go_simp
   obtain ⟨g1, hg1⟩ : ∃ g, g = W0.heap.size := ⟨_, rfl⟩
   obtain ⟨W1, hW1⟩ : ∃ Z : World, Z = W0.alloc (.cells #[.int .i64 x.lv, .int .i64 x.a, .int .i64 x.b, .int .i64 x.c, .int .i64 x.d] 56) := ⟨_, rfl⟩
   have hbl := (Below.refl W0.heap.size W0).alloc (Nat.le_refl _) (.cells #[.int .i64 x.lv, .int .i64 x.a, .int .i64 x.b, .int .i64 x.c, .int .i64 x.d] 56)
   rw [← hW1] at hbl
   have B1 := Lib.hid (B0.out.next hbl)
   have X1 := Lib.hid (X0.out.stay (hbl.block gx X0.out.lt))
   have L1 := Lib.hid (L0.out.trans (hbl.mono L0.out.size))
   have NS := Lib.hid (show Ns W1 (some ⟨g1, 0, none⟩) 1 [x] by rw [hW1]; exact ns_lit1 W0 g1 x hx hg1.symm)
   have hgl : W0.heap.size < W1.heap.size := by rw [hW1]; simp
   rw [← hg1, ← hW1]
   clear hg1 hW1 hbl
   refine hK.out _ _ X1.out.at_ (fun _ => ?_)
   clear hK K
   refine wpAnyH_ready (rs := [7]) (by kernel_rfl) (by simp) (AllReadyH.cons rfl (fun K hK => ?_) AllReadyH.nil)
   rw [if_pos (by rfl)]
   refine oper_append_nodes (.tmp 19) (.tmp 21) rfl base v out [x] (some ⟨g1, 0, none⟩) 1 1 rfl rfl B1.out.o NS.out rfl (fun e => by cases e) (by omega) (Nat.le_trans hbs L1.out.size) ?_
   intro v2 W6 ho hgw hat
   simp only [Act.put, LA]
   have hvb : ∀ k, v.ownBlock = some k → base ≤ k := fun k hk => (HH.out.o.lt k hk).1
   have nb : ∀ k, k < base → (some k : Option Nat) ≠ v.ownBlock := fun k hk e => by have := hvb k e.symm; omega
   have hbx6 := (hgw.block bb B1.out.lt (nb bb hb.1)).trans B1.out.bx
   have X6 := Lib.hid (X1.out.stay (hgw.block gx X1.out.lt (fun e => absurd (HH.out.o.lt gx e.symm).2 (by rw [HGX.out]; omega))))
   have K6 := Lib.hid (B1.out.k.stay (hgw.block bm B1.out.k.lt (nb bm hb.2)))
   have Y6 := Lib.hid ((Ky.refl (BdP bb bm v) w).below L1.out |>.gb hgw (fun i hi e => .inr (.inr e)))
   have O6 := Lib.hid ho
   have HB6 := Lib.hid hbx6
   have HT6 := Lib.hid (show ∀ k, v2.ownBlock = some k → v.ownBlock = some k ∨ w.heap.size ≤ k from fun k hk => by
    rcases hat with e | e
    ·
     exact .inl (e.symm.trans hk)
    ·
     rw [e] at hk; have := L1.out.size; have h9 := Option.some.inj hk; exact .inr (by omega))
   obtain ⟨A2, c2, hv2, hN2, -, -⟩ := ho.shape
   rw [show (out ++ [x]).length = out.length + 1 by simp] at hv2
   subst hv2
   refine hK.out _ _ X6.out.at_ (fun _ => ?_)
   clear hK K ho hgw hat hN2 hbx6
   refine wpAnyH_take (i := 8) (v := ?_) rfl (by kernel_rfl) (by kernel_rfl) (by kernel_rfl) (fun _ _ _ h => h) (Or.inl ⟨by rfl, ?_⟩) X6.out.at_ ?_
   rotate_left
   ·
    rintro w' ⟨s1, s2, s3, s4, s5⟩
    go_simp
    first | done | with_reducible rfl | rfl
   simp only [Act.put, LA]
   refine wpAnyH_take (i := 9) (v := ?_) rfl (by kernel_rfl) (by kernel_rfl) (by kernel_rfl) (fun _ _ _ h => h) (Or.inl ⟨by rfl, ?_⟩) X6.out.at_ ?_
   rotate_left
   ·
    rintro w' ⟨s1, s2, s3, s4, s5⟩
    go_simp
    first | done | with_reducible rfl | rfl
   simp only [Act.put, LA]
   refine wpAnyH_ready (rs := [10]) (by kernel_rfl) (by simp) (AllReadyH.cons rfl (fun K hK => ?_) AllReadyH.nil)
   have e0 : W6.cell? ⟨bb, 0, none⟩ = some v := by rw [cell_of_row W6 bb _ _ _ _ HB6.out]; rfl
   have e1 : W6.frozen? ⟨bb, 0, none⟩ = false := frozen_of_row W6 bb 0 _ _ HB6.out
   go_simp
   have hset := heap_setCell_same W6 bb 0 _ _ (.slice A2 (out.length + 1) c2) HB6.out
   obtain ⟨W7, hW7⟩ : ∃ Z : World, Z = W6.setCell ⟨bb, 0, none⟩ (.slice A2 (out.length + 1) c2) := ⟨_, rfl⟩
   have hgs := gb_setCell W6 ⟨bb, 0, none⟩ (.slice A2 (out.length + 1) c2)
   rw [← hW7] at hset hgs ⊢
   have B7 := Lib.hid (show Bd_ W7 base bb bm (.slice A2 (out.length + 1) c2) out x from ⟨hset, O6.out.gbr hgs (own_dec (fun k hk e => by have h1 := (O6.out.lt k hk).1; have h2 := hb.1; have h3 := Option.some.inj e; dsimp only at h3; omega)), K6.out.stay (hgs.block bm K6.out.lt (fun e => hd (Option.some.inj e).symm))⟩)
   have X7 := Lib.hid (X6.out.stay (hgs.block gx X6.out.lt (fun e => by have h3 := Option.some.inj e; dsimp only at h3; have := HGX.out; have := hb.1; omega)))
   have Y7 := Lib.hid (Y6.out.gb hgs (fun i hi e => .inl (Option.some.inj e).symm))
   refine hK.out _ _ X7.out.at_ (fun _ => ?_)
   clear hK K e0 e1 hset hgs hW7
   refine wpAnyH_done (by kernel_rfl) ?_ _
   refine NoPanic.normal ?_
   go_wp2_with fail
   refine wp_region_noPanic ?_
   refine wp_region_held (S := fun w' => (w'.cell? ⟨bb, 0, none⟩ = some (.slice A2 (out.length + 1) c2) ∧ w'.cell? ⟨bb, 1, none⟩ = some (.map (some bm))) ∧ (w'.cell? ⟨gx, 0, none⟩ = some (.int .i64 x.lv) ∧ w'.cell? ⟨gx, 1, none⟩ = some (.int .i64 x.a) ∧ w'.cell? ⟨gx, 2, none⟩ = some (.int .i64 x.b) ∧ w'.cell? ⟨gx, 3, none⟩ = some (.int .i64 x.c) ∧ w'.cell? ⟨gx, 4, none⟩ = some (.int .i64 x.d))) (by kernel_rfl) ?_
   obtain ⟨W8, hW8⟩ : ∃ Z : World, Z = W7.drew := ⟨_, rfl⟩
   have B8 := Lib.hid (show Bd_ W8 base bb bm (.slice A2 (out.length + 1) c2) out x by rw [hW8]; exact ⟨B7.out.bx, ⟨B7.out.o.1, B7.out.o.2⟩, B7.out.k⟩)
   have X8 := Lib.hid (show NdBox W8 gx x by rw [hW8]; exact X7.out)
   have Y8 := Lib.hid (show Ky (BdP bb bm v) w W8 by rw [hW8]; exact ⟨Y7.out.os, Y7.out.tape, Y7.out.output, Y7.out.size, Y7.out.block⟩)
   have hS8 := And.intro (And.intro B8.out.c0 B8.out.c1) X8.out.at_
   change wpAnyH _ _ _ _ _ _ _ _ W7.drew
   rw [← hW8]
   clear hW8
   refine wpAnyH_take (i := 0) (v := ?_) rfl (by kernel_rfl) (by kernel_rfl) (by kernel_rfl) (fun _ _ _ h => h) (Or.inl ⟨by rfl, ?_⟩) hS8 ?_
   rotate_left
   ·
    rintro w' ⟨⟨r1, r2⟩, s1, s2, s3, s4, s5⟩
    go_simp
    first | done | with_reducible rfl | rfl
   simp only [Act.put, LA]
   refine wpAnyH_take (i := 1) (v := ?_) rfl (by kernel_rfl) (by kernel_rfl) (by kernel_rfl) (fun _ _ _ h => h) (Or.inl ⟨by rfl, ?_⟩) hS8 ?_
   rotate_left
   ·
    rintro w' ⟨⟨r1, r2⟩, s1, s2, s3, s4, s5⟩
    go_simp
    first | done | with_reducible rfl | rfl
   simp only [Act.put, LA]
   refine wpAnyH_take (i := 2) (v := ?_) rfl (by kernel_rfl) (by kernel_rfl) (by kernel_rfl) (fun _ _ _ h => h) (Or.inl ⟨by rfl, ?_⟩) hS8 ?_
   rotate_left
   ·
    rintro w' ⟨⟨r1, r2⟩, s1, s2, s3, s4, s5⟩
    go_simp
    first | done | with_reducible rfl | rfl
   simp only [Act.put, LA]
   refine wpAnyH_take (i := 3) (v := ?_) rfl (by kernel_rfl) (by kernel_rfl) (by kernel_rfl) (fun _ _ _ h => h) (Or.inl ⟨by rfl, ?_⟩) hS8 ?_
   rotate_left
   ·
    rintro w' ⟨⟨r1, r2⟩, s1, s2, s3, s4, s5⟩
    go_simp
    first | done | with_reducible rfl | rfl
   simp only [Act.put, LA]
   refine wpAnyH_take (i := 4) (v := ?_) rfl (by kernel_rfl) (by kernel_rfl) (by kernel_rfl) (fun _ _ _ h => h) (Or.inl ⟨by rfl, ?_⟩) hS8 ?_
   rotate_left
   ·
    rintro w' ⟨⟨r1, r2⟩, s1, s2, s3, s4, s5⟩
    go_simp
    first | done | with_reducible rfl | rfl
   simp only [Act.put, LA]
   refine wpAnyH_take (i := 5) (v := ?_) rfl (by kernel_rfl) (by kernel_rfl) (by kernel_rfl) (fun _ _ _ h => h) (Or.inl ⟨by rfl, ?_⟩) hS8 ?_
   rotate_left
   ·
    rintro w' ⟨⟨r1, r2⟩, s1, s2, s3, s4, s5⟩
    go_simp
    first | done | with_reducible rfl | rfl
   simp only [Act.put, LA]
   refine wpAnyH_take (i := 6) (v := ?_) rfl (by kernel_rfl) (by kernel_rfl) (by kernel_rfl) (fun _ _ _ h => h) (Or.inl ⟨by rfl, ?_⟩) hS8 ?_
   rotate_left
   ·
    rintro w' ⟨⟨r1, r2⟩, s1, s2, s3, s4, s5⟩
    go_simp
    first | done | with_reducible rfl | rfl
   simp only [Act.put, LA]
   refine wpAnyH_take (i := 7) (v := ?_) rfl (by kernel_rfl) (by kernel_rfl) (by kernel_rfl) (fun _ _ _ h => h) (Or.inl ⟨by rfl, ?_⟩) hS8 ?_
   rotate_left
   ·
    rintro w' ⟨⟨r1, r2⟩, s1, s2, s3, s4, s5⟩
    go_simp
    first | done | with_reducible rfl | rfl
   simp only [Act.put, LA]
   refine wpAnyH_take (i := 8) (v := ?_) rfl (by kernel_rfl) (by kernel_rfl) (by kernel_rfl) (fun _ _ _ h => h) (Or.inl ⟨by rfl, ?_⟩) hS8 ?_
   rotate_left
   ·
    rintro w' ⟨⟨r1, r2⟩, s1, s2, s3, s4, s5⟩
    go_simp
    first | done | with_reducible rfl | rfl
   simp only [Act.put, LA]
   refine wpAnyH_take (i := 9) (v := ?_) rfl (by kernel_rfl) (by kernel_rfl) (by kernel_rfl) (fun _ _ _ h => h) (Or.inl ⟨by rfl, ?_⟩) hS8 ?_
   rotate_left
   ·
    rintro w' ⟨⟨r1, r2⟩, s1, s2, s3, s4, s5⟩
    go_simp
    first | done | with_reducible rfl | rfl
   simp only [Act.put, LA]
   refine wpAnyH_ready (rs := [10]) (by kernel_rfl) (by simp) (AllReadyH.cons rfl (fun K hK => ?_) AllReadyH.nil)
   rw [if_pos (by rfl)]
   refine oper_store_km (.tmp 28) (.tmp 29) (.tmp 34) rfl bm out x _ rfl rfl rfl (by omega) B8.out.k HH.out.o.1 hx HF.out.symm ?_
   intro W9 m9 g9
   simp only [Act.put, LA]
   have hb9 := (g9.block bb B8.out.lt (fun e => hd (Option.some.inj e))).trans B8.out.bx
   have k9 : W9.cell? ⟨bb, 0, none⟩ = some (.slice A2 (out.length + 1) c2) := by rw [cell_of_row W9 bb _ _ _ _ hb9]; rfl
   have k9b : W9.cell? ⟨bb, 1, none⟩ = some (.map (some bm)) := by rw [cell_of_row W9 bb _ _ _ _ hb9]; rfl
   have X9 := Lib.hid (X8.out.stay (g9.block gx X8.out.lt (fun e => by have h3 := Option.some.inj e; have := HGX.out; have := hb.2; omega)))
   have M9 := Lib.hid m9
   have G9 := Lib.hid g9
   have HB9 := Lib.hid hb9
   refine hK.out _ _ ⟨⟨k9, k9b⟩, X9.out.at_⟩ (fun _ => ?_)
   clear hK K m9 g9 hb9 k9b
   refine wpAnyH_done (by kernel_rfl) ?_ _
   refine NoPanic.normal ?_
   go_wp2_with fail
   go_ret
   unfold RetNu add
   rw [if_pos HF.out.symm]
   refine ⟨_, ?_, ⟨HB9.out, B8.out.o.gbr G9.out (own_dec (fun k hk e => by have h1 := (B8.out.o.lt k hk).1; have h2 := hb.2; have h3 := Option.some.inj e; omega)), M9.out⟩, HT6.out, Y8.out.gb G9.out (fun i hi e => .inr (.inl (Option.some.inj e).symm))⟩
   show Ending.returned (.int .i64 _) = .returned (.int .i64 _)
   congr 2
   try omega
  ·
   go_simp
   obtain ⟨g1, hg1⟩ : ∃ g, g = W0.heap.size := ⟨_, rfl⟩
   obtain ⟨W1, hW1⟩ : ∃ Z : World, Z = W0.alloc (.cells #[.int .i64 x.lv, .int .i64 x.a, .int .i64 x.b, .int .i64 x.c, .int .i64 x.d] 56) := ⟨_, rfl⟩
   have hbl := (Below.refl W0.heap.size W0).alloc (Nat.le_refl _) (.cells #[.int .i64 x.lv, .int .i64 x.a, .int .i64 x.b, .int .i64 x.c, .int .i64 x.d] 56)
   rw [← hW1] at hbl
   have B1 := Lib.hid (B0.out.next hbl)
   have X1 := Lib.hid (X0.out.stay (hbl.block gx X0.out.lt))
   have L1 := Lib.hid (L0.out.trans (hbl.mono L0.out.size))
   have NS := Lib.hid (show Ns W1 (some ⟨g1, 0, none⟩) 1 [x] by rw [hW1]; exact ns_lit1 W0 g1 x hx hg1.symm)
   have hgl : W0.heap.size < W1.heap.size := by rw [hW1]; simp
   rw [← hg1, ← hW1]
   clear hg1 hW1 hbl
   refine hK.out _ _ X1.out.at_ (fun _ => ?_)
   clear hK K
   refine wpAnyH_ready (rs := [4]) (by kernel_rfl) (by simp) (AllReadyH.cons rfl (fun K hK => ?_) AllReadyH.nil)
   have q0 := B1.out.c0
   go_simp
   refine hK.out _ _ X1.out.at_ (fun _ => ?_)
   clear hK K q0
   refine wpAnyH_ready (rs := [7]) (by kernel_rfl) (by simp) (AllReadyH.cons rfl (fun K hK => ?_) AllReadyH.nil)
   rw [if_pos (by rfl)]
   refine oper_append_nodes (.tmp 19) (.tmp 21) rfl base v out [x] (some ⟨g1, 0, none⟩) 1 1 rfl rfl B1.out.o NS.out rfl (fun e => by cases e) (by omega) (Nat.le_trans hbs L1.out.size) ?_
   intro v2 W6 ho hgw hat
   simp only [Act.put, LA]
   have hvb : ∀ k, v.ownBlock = some k → base ≤ k := fun k hk => (HH.out.o.lt k hk).1
   have nb : ∀ k, k < base → (some k : Option Nat) ≠ v.ownBlock := fun k hk e => by have := hvb k e.symm; omega
   have hbx6 := (hgw.block bb B1.out.lt (nb bb hb.1)).trans B1.out.bx
   have X6 := Lib.hid (X1.out.stay (hgw.block gx X1.out.lt (fun e => absurd (HH.out.o.lt gx e.symm).2 (by rw [HGX.out]; omega))))
   have K6 := Lib.hid (B1.out.k.stay (hgw.block bm B1.out.k.lt (nb bm hb.2)))
   have Y6 := Lib.hid ((Ky.refl (BdP bb bm v) w).below L1.out |>.gb hgw (fun i hi e => .inr (.inr e)))
   have O6 := Lib.hid ho
   have HB6 := Lib.hid hbx6
   have HT6 := Lib.hid (show ∀ k, v2.ownBlock = some k → v.ownBlock = some k ∨ w.heap.size ≤ k from fun k hk => by
    rcases hat with e | e
    ·
     exact .inl (e.symm.trans hk)
    ·
     rw [e] at hk; have := L1.out.size; have h9 := Option.some.inj hk; exact .inr (by omega))
   obtain ⟨A2, c2, hv2, hN2, -, -⟩ := ho.shape
   rw [show (out ++ [x]).length = out.length + 1 by simp] at hv2
   subst hv2
   refine hK.out _ _ X6.out.at_ (fun _ => ?_)
   clear hK K ho hgw hat hN2 hbx6
   refine wpAnyH_take (i := 8) (v := ?_) rfl (by kernel_rfl) (by kernel_rfl) (by kernel_rfl) (fun _ _ _ h => h) (Or.inl ⟨by rfl, ?_⟩) X6.out.at_ ?_
   rotate_left
   ·
    rintro w' ⟨s1, s2, s3, s4, s5⟩
    go_simp
    first | done | with_reducible rfl | rfl
   simp only [Act.put, LA]
   refine wpAnyH_take (i := 9) (v := ?_) rfl (by kernel_rfl) (by kernel_rfl) (by kernel_rfl) (fun _ _ _ h => h) (Or.inl ⟨by rfl, ?_⟩) X6.out.at_ ?_
   rotate_left
   ·
    rintro w' ⟨s1, s2, s3, s4, s5⟩
    go_simp
    first | done | with_reducible rfl | rfl
   simp only [Act.put, LA]
   refine wpAnyH_ready (rs := [10]) (by kernel_rfl) (by simp) (AllReadyH.cons rfl (fun K hK => ?_) AllReadyH.nil)
   have e0 : W6.cell? ⟨bb, 0, none⟩ = some v := by rw [cell_of_row W6 bb _ _ _ _ HB6.out]; rfl
   have e1 : W6.frozen? ⟨bb, 0, none⟩ = false := frozen_of_row W6 bb 0 _ _ HB6.out
   go_simp
   have hset := heap_setCell_same W6 bb 0 _ _ (.slice A2 (out.length + 1) c2) HB6.out
   obtain ⟨W7, hW7⟩ : ∃ Z : World, Z = W6.setCell ⟨bb, 0, none⟩ (.slice A2 (out.length + 1) c2) := ⟨_, rfl⟩
   have hgs := gb_setCell W6 ⟨bb, 0, none⟩ (.slice A2 (out.length + 1) c2)
   rw [← hW7] at hset hgs ⊢
   have B7 := Lib.hid (show Bd_ W7 base bb bm (.slice A2 (out.length + 1) c2) out x from ⟨hset, O6.out.gbr hgs (own_dec (fun k hk e => by have h1 := (O6.out.lt k hk).1; have h2 := hb.1; have h3 := Option.some.inj e; dsimp only at h3; omega)), K6.out.stay (hgs.block bm K6.out.lt (fun e => hd (Option.some.inj e).symm))⟩)
   have X7 := Lib.hid (X6.out.stay (hgs.block gx X6.out.lt (fun e => by have h3 := Option.some.inj e; dsimp only at h3; have := HGX.out; have := hb.1; omega)))
   have Y7 := Lib.hid (Y6.out.gb hgs (fun i hi e => .inl (Option.some.inj e).symm))
   refine hK.out _ _ X7.out.at_ (fun _ => ?_)
   clear hK K e0 e1 hset hgs hW7
   refine wpAnyH_done (by kernel_rfl) ?_ _
   refine NoPanic.normal ?_
   go_wp2_with fail
   refine wp_region_noPanic ?_
   refine wp_region_held (S := fun w' => (w'.cell? ⟨bb, 0, none⟩ = some (.slice A2 (out.length + 1) c2) ∧ w'.cell? ⟨bb, 1, none⟩ = some (.map (some bm))) ∧ (w'.cell? ⟨gx, 0, none⟩ = some (.int .i64 x.lv) ∧ w'.cell? ⟨gx, 1, none⟩ = some (.int .i64 x.a) ∧ w'.cell? ⟨gx, 2, none⟩ = some (.int .i64 x.b) ∧ w'.cell? ⟨gx, 3, none⟩ = some (.int .i64 x.c) ∧ w'.cell? ⟨gx, 4, none⟩ = some (.int .i64 x.d))) (by kernel_rfl) ?_
   obtain ⟨W8, hW8⟩ : ∃ Z : World, Z = W7.drew := ⟨_, rfl⟩
   have B8 := Lib.hid (show Bd_ W8 base bb bm (.slice A2 (out.length + 1) c2) out x by rw [hW8]; exact ⟨B7.out.bx, ⟨B7.out.o.1, B7.out.o.2⟩, B7.out.k⟩)
   have X8 := Lib.hid (show NdBox W8 gx x by rw [hW8]; exact X7.out)
   have Y8 := Lib.hid (show Ky (BdP bb bm v) w W8 by rw [hW8]; exact ⟨Y7.out.os, Y7.out.tape, Y7.out.output, Y7.out.size, Y7.out.block⟩)
   have hS8 := And.intro (And.intro B8.out.c0 B8.out.c1) X8.out.at_
   change wpAnyH _ _ _ _ _ _ _ _ W7.drew
   rw [← hW8]
   clear hW8
   refine wpAnyH_take (i := 0) (v := ?_) rfl (by kernel_rfl) (by kernel_rfl) (by kernel_rfl) (fun _ _ _ h => h) (Or.inl ⟨by rfl, ?_⟩) hS8 ?_
   rotate_left
   ·
    rintro w' ⟨⟨r1, r2⟩, s1, s2, s3, s4, s5⟩
    go_simp
    first | done | with_reducible rfl | rfl
   simp only [Act.put, LA]
   refine wpAnyH_take (i := 1) (v := ?_) rfl (by kernel_rfl) (by kernel_rfl) (by kernel_rfl) (fun _ _ _ h => h) (Or.inl ⟨by rfl, ?_⟩) hS8 ?_
   rotate_left
   ·
    rintro w' ⟨⟨r1, r2⟩, s1, s2, s3, s4, s5⟩
    go_simp
    first | done | with_reducible rfl | rfl
   simp only [Act.put, LA]
   refine wpAnyH_take (i := 2) (v := ?_) rfl (by kernel_rfl) (by kernel_rfl) (by kernel_rfl) (fun _ _ _ h => h) (Or.inl ⟨by rfl, ?_⟩) hS8 ?_
   rotate_left
   ·
    rintro w' ⟨⟨r1, r2⟩, s1, s2, s3, s4, s5⟩
    go_simp
    first | done | with_reducible rfl | rfl
   simp only [Act.put, LA]
   refine wpAnyH_take (i := 3) (v := ?_) rfl (by kernel_rfl) (by kernel_rfl) (by kernel_rfl) (fun _ _ _ h => h) (Or.inl ⟨by rfl, ?_⟩) hS8 ?_
   rotate_left
   ·
    rintro w' ⟨⟨r1, r2⟩, s1, s2, s3, s4, s5⟩
    go_simp
    first | done | with_reducible rfl | rfl
   simp only [Act.put, LA]
   refine wpAnyH_take (i := 4) (v := ?_) rfl (by kernel_rfl) (by kernel_rfl) (by kernel_rfl) (fun _ _ _ h => h) (Or.inl ⟨by rfl, ?_⟩) hS8 ?_
   rotate_left
   ·
    rintro w' ⟨⟨r1, r2⟩, s1, s2, s3, s4, s5⟩
    go_simp
    first | done | with_reducible rfl | rfl
   simp only [Act.put, LA]
   refine wpAnyH_take (i := 5) (v := ?_) rfl (by kernel_rfl) (by kernel_rfl) (by kernel_rfl) (fun _ _ _ h => h) (Or.inl ⟨by rfl, ?_⟩) hS8 ?_
   rotate_left
   ·
    rintro w' ⟨⟨r1, r2⟩, s1, s2, s3, s4, s5⟩
    go_simp
    first | done | with_reducible rfl | rfl
   simp only [Act.put, LA]
   refine wpAnyH_take (i := 6) (v := ?_) rfl (by kernel_rfl) (by kernel_rfl) (by kernel_rfl) (fun _ _ _ h => h) (Or.inl ⟨by rfl, ?_⟩) hS8 ?_
   rotate_left
   ·
    rintro w' ⟨⟨r1, r2⟩, s1, s2, s3, s4, s5⟩
    go_simp
    first | done | with_reducible rfl | rfl
   simp only [Act.put, LA]
   refine wpAnyH_take (i := 7) (v := ?_) rfl (by kernel_rfl) (by kernel_rfl) (by kernel_rfl) (fun _ _ _ h => h) (Or.inl ⟨by rfl, ?_⟩) hS8 ?_
   rotate_left
   ·
    rintro w' ⟨⟨r1, r2⟩, s1, s2, s3, s4, s5⟩
    go_simp
    first | done | with_reducible rfl | rfl
   simp only [Act.put, LA]
   refine wpAnyH_take (i := 8) (v := ?_) rfl (by kernel_rfl) (by kernel_rfl) (by kernel_rfl) (fun _ _ _ h => h) (Or.inl ⟨by rfl, ?_⟩) hS8 ?_
   rotate_left
   ·
    rintro w' ⟨⟨r1, r2⟩, s1, s2, s3, s4, s5⟩
    go_simp
    first | done | with_reducible rfl | rfl
   simp only [Act.put, LA]
   refine wpAnyH_take (i := 9) (v := ?_) rfl (by kernel_rfl) (by kernel_rfl) (by kernel_rfl) (fun _ _ _ h => h) (Or.inl ⟨by rfl, ?_⟩) hS8 ?_
   rotate_left
   ·
    rintro w' ⟨⟨r1, r2⟩, s1, s2, s3, s4, s5⟩
    go_simp
    first | done | with_reducible rfl | rfl
   simp only [Act.put, LA]
   refine wpAnyH_ready (rs := [10]) (by kernel_rfl) (by simp) (AllReadyH.cons rfl (fun K hK => ?_) AllReadyH.nil)
   rw [if_pos (by rfl)]
   refine oper_store_km (.tmp 28) (.tmp 29) (.tmp 34) rfl bm out x _ rfl rfl rfl (by omega) B8.out.k HH.out.o.1 hx HF.out.symm ?_
   intro W9 m9 g9
   simp only [Act.put, LA]
   have hb9 := (g9.block bb B8.out.lt (fun e => hd (Option.some.inj e))).trans B8.out.bx
   have k9 : W9.cell? ⟨bb, 0, none⟩ = some (.slice A2 (out.length + 1) c2) := by rw [cell_of_row W9 bb _ _ _ _ hb9]; rfl
   have k9b : W9.cell? ⟨bb, 1, none⟩ = some (.map (some bm)) := by rw [cell_of_row W9 bb _ _ _ _ hb9]; rfl
   have X9 := Lib.hid (X8.out.stay (g9.block gx X8.out.lt (fun e => by have h3 := Option.some.inj e; have := HGX.out; have := hb.2; omega)))
   have M9 := Lib.hid m9
   have G9 := Lib.hid g9
   have HB9 := Lib.hid hb9
   refine hK.out _ _ ⟨⟨k9, k9b⟩, X9.out.at_⟩ (fun _ => ?_)
   clear hK K m9 g9 hb9 k9b
   refine wpAnyH_done (by kernel_rfl) ?_ _
   refine NoPanic.normal ?_
   go_wp2_with fail
   go_ret
   unfold RetNu add
   rw [if_pos HF.out.symm]
   refine ⟨_, ?_, ⟨HB9.out, B8.out.o.gbr G9.out (own_dec (fun k hk e => by have h1 := (B8.out.o.lt k hk).1; have h2 := hb.2; have h3 := Option.some.inj e; omega)), M9.out⟩, HT6.out, Y8.out.gb G9.out (fun i hi e => .inr (.inl (Option.some.inj e).symm))⟩
   show Ending.returned (.int .i64 _) = .returned (.int .i64 _)
   congr 2
   try omega
 ·
  have t1 : ((f : Int) != 0) = true := by rw [bne_iff_ne]; omega
  have HZ := Lib.hid hz
  clear hz
  go_enter Tryz.func89, Tryz.ntmps89
  go_wp2_with fail
  go_quiet (fail)
  go_wp2_with fail
  go_ret
  have hlb : Below W.heap.size W (W.drewN nq) := below_drewN (Below.refl _ W) nq
  unfold RetNu add
  rw [if_neg (fun e => HZ.out (HF.out.trans e))]
  rw [← HW.out]
  refine ⟨v, ?_, HBD.out.next hlb, fun k hk => .inl hk, (Ky.refl _ w).below (HB.out.trans (hlb.mono HB.out.size))⟩
  rw [← HF.out]
  rfl
end Go.Proofs.YtmfncapgikobkaaGreat

namespace Go.Proofs.YtmfncapgikobkaaGreat
set_option maxRecDepth 100000
set_option linter.unusedVariables false
set_option linter.unusedSimpArgs false
open Nds Num
def Cv.cn (v : Cv) : Cl := ⟨(val v.xs : Nat), (val v.ys : Nat), v.st⟩
def inQ (m i : Nat) (v : Cv) : Bool := quaC v m == i
def treeZ : Nat → List Cv → Tr
 | 0, [] => .e
 | 0, v :: _ => .s v.st
 | m + 1, l => mk ((m : Int) + 1) (treeZ m (l.filter (inQ m 0))) (treeZ m (l.filter (inQ m 1))) (treeZ m (l.filter (inQ m 2))) (treeZ m (l.filter (inQ m 3)))
theorem treeZ_nil : ∀ m, treeZ m [] = .e
 | 0 => rfl
 | m + 1 => by
  show mk _ (treeZ m []) (treeZ m []) (treeZ m []) (treeZ m []) = .e
  rw [treeZ_nil m]
  rfl
theorem inQ_some (m : Nat) (v : Cv) : inQ m 0 v = true ∨ inQ m 1 v = true ∨ inQ m 2 v = true ∨ inQ m 3 v = true := by
 have h := qtr_lt m (val v.xs) (val v.ys)
 unfold inQ quaC
 simp only [beq_iff_eq]
 omega
theorem filter_ne {l : List Cv} {p : Cv → Bool} {v : Cv} (h : v ∈ l) (hp : p v = true) : l.filter p ≠ [] := fun e => by
 have := List.mem_filter.2 ⟨h, hp⟩
 rw [e] at this
 cases this
theorem treeZ_ne : ∀ (m : Nat) {l : List Cv}, l ≠ [] → treeZ m l ≠ .e
 | 0, [], h => absurd rfl h
 | 0, v :: l, _ => fun e => by cases e
 | m + 1, l, h => by
  obtain ⟨v, hv⟩ := List.exists_mem_of_ne_nil l h
  show mk _ _ _ _ _ ≠ .e
  rw [← isE_no, mk_isE]
  unfold allE
  have key : ∀ i, inQ m i v = true → (treeZ m (l.filter (inQ m i))).isE = false := fun i hi => isE_no.2 (treeZ_ne m (filter_ne hv hi))
  rcases inQ_some m v with h | h | h | h <;> rw [key _ h] <;> simp
theorem treeZ_wf : ∀ (m : Nat) (l : List Cv), m ≤ 1329 → (∀ v ∈ l, 1 ≤ v.st ∧ v.st ≤ 255) → wfT (m : Int) (treeZ m l)
 | 0, [], _, _ => trivial
 | 0, v :: l, _, h => by
  have := h v (by simp)
  exact ⟨rfl, by omega, by omega⟩
 | m + 1, l, hm, h => by
  have sub : ∀ i, wfT (m : Int) (treeZ m (l.filter (inQ m i))) := fun i => treeZ_wf m _ (by omega) (fun v hv => h v (List.mem_filter.1 hv).1)
  have e : (((m + 1 : Nat)) : Int) = (m : Int) + 1 := by omega
  rw [e]
  refine wf_mk ⟨by omega, by omega⟩ ?_ ?_ ?_ ?_ <;> (rw [show (m : Int) + 1 - 1 = (m : Int) by omega]; exact sub _)
theorem lk_inQ (m i : Nat) (x y : Nat) : ∀ (l : List Cv), lk ((l.filter (inQ m i)).map Cv.cn) x y = if qtr m x y = i then lk (l.map Cv.cn) x y else 0
 | [] => by
  show (0 : Int) = if _ then 0 else 0
  split <;> rfl
 | v :: l => by
  rw [List.filter_cons]
  have hp : v.cn.x = (x : Int) ∧ v.cn.y = (y : Int) → quaC v m = qtr m x y := fun h => by
   have h1 : val v.xs = x := by have := h.1; simp only [Cv.cn] at this; omega
   have h2 : val v.ys = y := by have := h.2; simp only [Cv.cn] at this; omega
   unfold quaC
   rw [h1, h2]
  by_cases hc : inQ m i v = true
  ·
   rw [if_pos hc, List.map_cons, List.map_cons]
   unfold lk
   rw [lk_inQ m i x y l]
   by_cases hxy : v.cn.x = (x : Int) ∧ v.cn.y = (y : Int)
   ·
    have h1 : quaC v m = i := by unfold inQ at hc; simpa using hc
    rw [if_pos hxy, if_pos hxy, if_pos (by rw [← hp hxy]; exact h1)]
   ·
    rw [if_neg hxy, if_neg hxy]
  ·
   rw [if_neg hc, lk_inQ m i x y l, List.map_cons]
   by_cases hq : qtr m x y = i
   ·
    rw [if_pos hq, if_pos hq]
    conv => rhs; unfold lk
    rw [if_neg (fun hxy => hc (by unfold inQ; rw [hp hxy, hq]; simp))]
   ·
    rw [if_neg hq, if_neg hq]
theorem lk_neg {l : List Cv} {x y : Int} (h : x < 0 ∨ y < 0) : lk (l.map Cv.cn) x y = 0 := lk_none fun c hc hcp => by
 obtain ⟨v, _, rfl⟩ := List.mem_map.1 hc
 have h1 := hcp.1
 have h2 := hcp.2
 simp only [Cv.cn] at h1 h2
 omega
theorem lk_quarters (m : Nat) (l : List Cv) (x y : Int) : lk ((l.filter (inQ m 0)).map Cv.cn) x y + lk ((l.filter (inQ m 1)).map Cv.cn) x y + lk ((l.filter (inQ m 2)).map Cv.cn) x y + lk ((l.filter (inQ m 3)).map Cv.cn) x y = lk (l.map Cv.cn) x y := by
 by_cases hn : x < 0 ∨ y < 0
 ·
  rw [lk_neg hn, lk_neg hn, lk_neg hn, lk_neg hn, lk_neg hn]
  rfl
 ·
  obtain ⟨a, rfl⟩ := Int.eq_ofNat_of_zero_le (show 0 ≤ x by omega)
  obtain ⟨b, rfl⟩ := Int.eq_ofNat_of_zero_le (show 0 ≤ y by omega)
  rw [lk_inQ, lk_inQ, lk_inQ, lk_inQ]
  have h := qtr_lt m a b
  generalize qtr m a b = q at h
  obtain rfl | rfl | rfl | rfl : q = 0 ∨ q = 1 ∨ q = 2 ∨ q = 3 := by omega
  all_goals simp
def HiB (m hx hy : Nat) (l : List Cv) : Prop := ∀ v ∈ l, val v.xs / 2 ^ m = hx ∧ val v.ys / 2 ^ m = hy
theorem hi_quarter {m hx hy i : Nat} {l : List Cv} (h : HiB (m + 1) hx hy l) (hi : i < 4) : HiB m (2 * hx + i % 2) (2 * hy + i / 2) (l.filter (inQ m i)) := fun v hv => by
 obtain ⟨h1, h2⟩ := List.mem_filter.1 hv
 obtain ⟨h3, h4⟩ := h v h1
 unfold inQ quaC qtr at h2
 simp only [beq_iff_eq] at h2
 rw [Nat.pow_succ, ← Nat.div_div_eq_div_mul] at h3 h4
 omega
theorem treeZ_cells : ∀ (m : Nat) (l : List Cv) (hx hy : Nat), m ≤ 1329 → (∀ v ∈ l, 1 ≤ v.st ∧ v.st ≤ 255) → HiB m hx hy l → (l.map Cv.cn).Pairwise (fun a b => ¬ (a.x = b.x ∧ a.y = b.y)) →
  ∀ x y, cellC (treeZ m l) x y = lk (l.map Cv.cn) (x + hx * p2 m) (y + hy * p2 m)
 | 0, [], hx, hy, _, _, _, _, x, y => rfl
 | 0, v :: l, hx, hy, _, _, hb, hp, x, y => by
  have hnil : l = [] := by
   cases l with
   | nil => rfl
   | cons u l =>
    have h1 := List.rel_of_pairwise_cons hp (a' := u.cn) (by simp)
    obtain ⟨a1, a2⟩ := hb v (by simp)
    obtain ⟨b1, b2⟩ := hb u (by simp)
    simp only [Nat.pow_zero, Nat.div_one] at a1 a2 b1 b2
    exact absurd ⟨by simp only [Cv.cn]; omega, by simp only [Cv.cn]; omega⟩ h1
  subst hnil
  obtain ⟨a1, a2⟩ := hb v (by simp)
  simp only [Nat.pow_zero, Nat.div_one] at a1 a2
  show (if x = 0 ∧ y = 0 then (v.st : Int) else 0) = if v.cn.x = _ ∧ v.cn.y = _ then (v.st : Int) else 0
  rw [p2_zero]
  have k1 : v.cn.x = (hx : Int) := by simp only [Cv.cn]; omega
  have k2 : v.cn.y = (hy : Int) := by simp only [Cv.cn]; omega
  by_cases h0 : x = 0 ∧ y = 0
  ·
   rw [if_pos h0, if_pos ⟨by omega, by omega⟩]
  ·
   rw [if_neg h0, if_neg (by omega)]
 | m + 1, l, hx, hy, hm, hs, hb, hp, x, y => by
  have sub : ∀ i, wfT (m : Int) (treeZ m (l.filter (inQ m i))) := fun i => treeZ_wf m _ (by omega) (fun v hv => hs v (List.mem_filter.1 hv).1)
  have ih : ∀ i, i < 4 → ∀ x y, cellC (treeZ m (l.filter (inQ m i))) x y = lk ((l.filter (inQ m i)).map Cv.cn) (x + (2 * hx + i % 2 : Nat) * p2 m) (y + (2 * hy + i / 2 : Nat) * p2 m) := fun i hi =>
   treeZ_cells m (l.filter (inQ m i)) _ _ (by omega) (fun v hv => hs v (List.mem_filter.1 hv).1) (hi_quarter hb hi) (hp.sublist (List.Sublist.map _ List.filter_sublist))
  show cellC (mk ((m : Int) + 1) _ _ _ _) x y = _
  have i0 := ih 0 (by decide)
  have i1 := ih 1 (by decide)
  have i2 := ih 2 (by decide)
  have i3 := ih 3 (by decide)
  simp only [Nat.reduceMod, Nat.reduceDiv] at i0 i1 i2 i3
  rw [cell_mk (sub 0) (sub 1) (sub 2) (sub 3), i0, i1, i2, i3, ← lk_quarters m l]
  rw [p2_succ]
  have e1 : ∀ (h : Nat) (z : Int), z + ((2 * h + 0 : Nat) : Int) * p2 m = z + (h : Int) * (p2 m + p2 m) := fun h z => by
   rw [show ((2 * h + 0 : Nat) : Int) = 2 * (h : Int) by omega, Int.mul_add, Int.mul_assoc, Int.two_mul]
  have e2 : ∀ (h : Nat) (z : Int), z - p2 m + ((2 * h + 1 : Nat) : Int) * p2 m = z + (h : Int) * (p2 m + p2 m) := fun h z => by
   rw [show ((2 * h + 1 : Nat) : Int) = 2 * (h : Int) + 1 by omega, Int.add_mul, Int.mul_add, Int.mul_assoc, Int.two_mul, Int.one_mul]
   omega
  simp only [e1, e2]
end Go.Proofs.YtmfncapgikobkaaGreat

namespace Go.Proofs.YtmfncapgikobkaaGreat
set_option maxRecDepth 100000
set_option linter.unusedVariables false
set_option linter.unusedSimpArgs false
open Go.RowKit Nds Num Go.Sort
set_option maxRecDepth 100000 in
set_option maxHeartbeats 3200000 in
theorem seek_gro (bl bv bi : Nat) (A : Option Addr) (c n m i k : Nat) (l : List Cv) (w : World) (hl : w.cell? ⟨bl, 0, none⟩ = some (.slice A n c)) (hv : w.cell? ⟨bv, 0, none⟩ = some (.int .i64 ((m : Int) + 1))) (hi : w.cell? ⟨bi, 0, none⟩ = some (.int .i64 (i : Int)))
  (h : Cs w A c l) (hn : l.length = n) (hR : ∀ v ∈ l, v.xs.length ≤ 60000 ∧ v.ys.length ≤ 60000) (hm : m ≤ 100000) (hk : k < n) :
  Calls Tryz.prog 88 #[.int .i64 (k : Int), .pointer (some ⟨bl, 0, none⟩), .pointer (some ⟨bv, 0, none⟩), .pointer (some ⟨bi, 0, none⟩)] w fun e w' => e = .returned (.bool (decide (i < quaC (cat l k) m))) ∧ Gro w w' := by
 have hcap := h.cap
 rw [hn] at hcap
 obtain ⟨b, off, rfl, hb, hc⟩ := h.at_ (by omega)
 obtain ⟨c1, c2, c3, c4, c5⟩ := hc k (by omega)
 have hu := h.1 _ (cat_mem (i := k) (by omega))
 obtain ⟨r1, r2⟩ := hR _ (cat_mem (i := k) (by omega))
 generalize cat l k = v at *
 have hv1 := hu.1.cap
 have hv2 := hu.2.1.cap
 obtain ⟨q, hq⟩ : ∃ q, q = quaC v m := ⟨_, rfl⟩
 rw [← hq]
 have HQ := Lib.hid hq
 have HU := Lib.hid hu
 have HLL := Lib.hid hl
 have HVV := Lib.hid hv
 have HII := Lib.hid hi
 have HLT := Lib.hid (And.intro (lt_of_cell hl) (And.intro (lt_of_cell hv) (lt_of_cell hi)))
 have HCV := Lib.hid (show CvAt w b (off + k * 5) v from ⟨c1, c2, c3, c4, c5⟩)
 have HLb := Lib.hid hb
 have i1 : (0 : Int) ≤ (k : Int) := by omega
 have i2 : (k : Int) < (n : Int) := by omega
 have st : Gro w w.drew := (Gro.refl w).drewN 1
 clear h hc hq hu hR
 go_enter Tryz.func88, Tryz.ntmps88
 go_wp2_with fail
 go_region_held3 (fun w' => w'.cell? ⟨bl, 0, none⟩ = some (.slice (some ⟨b, off, none⟩) n c) ∧ w'.cell? ⟨bv, 0, none⟩ = some (.int .i64 ((m : Int) + 1)) ∧ w'.cell? ⟨bi, 0, none⟩ = some (.int .i64 (i : Int)) ∧ (w'.cell? ⟨b, off + k * 5, none⟩ = some (.bool v.sx) ∧ w'.cell? ⟨b, off + k * 5 + 1, none⟩ = some (.slice v.ax v.xs.length v.cx) ∧ w'.cell? ⟨b, off + k * 5 + 2, none⟩ = some (.bool v.sy) ∧ w'.cell? ⟨b, off + k * 5 + 3, none⟩ = some (.slice v.ay v.ys.length v.cy) ∧ w'.cell? ⟨b, off + k * 5 + 4, none⟩ = some (.int .u8 v.st)))
  (first | go_keep | exact ⟨k0, k1, k2, ⟨e1, e2, e3, e4, e5⟩⟩)
  (first | (go_at_call 86; refine (quarter_gro v m _ (HU.out.below st.b) r1 r2 hm).mono ?_; rintro e w1 ⟨rfl, g1⟩; rw [← HQ.out]; have k0 := ((st.trans g1).b.cell (p := ⟨bl, 0, none⟩) HLT.out.1).trans HLL.out; have k1 := ((st.trans g1).b.cell (p := ⟨bv, 0, none⟩) HLT.out.2.1).trans HVV.out; have k2 := ((st.trans g1).b.cell (p := ⟨bi, 0, none⟩) HLT.out.2.2).trans HII.out; obtain ⟨e1, e2, e3, e4, e5⟩ := HCV.out.below ((st.trans g1).b.block b HLb.out)))
 all_goals
  go_wp2_with fail
  go_ret
  refine ⟨?_, st.trans g1⟩
  show Ending.returned (.bool _) = .returned (.bool _)
  congr 2
theorem below_grow (w : World) (m : Nat) (os : Array Obj) : Below w.heap.size w (grow (w.drewN m) os) :=
 ⟨rfl, rfl, rfl, by rw [size_grow]; exact Nat.le_add_right _ _, fun k hk => by
  show (w.heap ++ os)[k]? = _
  rw [Array.getElem?_append, if_pos hk]⟩
theorem cat_range (l : List Cv) : (List.range l.length).map (cat l) = l := by
 refine List.ext_getElem (by simp) fun i h1 h2 => ?_
 rw [List.getElem_map, List.getElem_range, cat_get h2]
def endQ (l : List Cv) (m i : Nat) : Nat := l.countP (fun v => decide (quaC v m ≤ i))
theorem search_any (bl bv bi : Nat) (A : Option Addr) (c n m i : Nat) (l : List Cv) (w : World) (hl : w.cell? ⟨bl, 0, none⟩ = some (.slice A n c)) (hv : w.cell? ⟨bv, 0, none⟩ = some (.int .i64 ((m : Int) + 1))) (hi : w.cell? ⟨bi, 0, none⟩ = some (.int .i64 (i : Int)))
  (h : Cs w A c l) (hn : l.length = n) (hR : ∀ v ∈ l, v.xs.length ≤ 60000 ∧ v.ys.length ≤ 60000) (hm : m ≤ 100000) (hn9 : n ≤ 1000000) (hmono : ∀ a b, a ≤ b → b < n → quaC (cat l a) m ≤ quaC (cat l b) m) :
  Calls Tryz.prog 87 #[.int .i64 (n : Int), .func (.func 88) #[] #[.pointer (some ⟨bl, 0, none⟩), .pointer (some ⟨bv, 0, none⟩), .pointer (some ⟨bi, 0, none⟩)]] w fun e w' => e = .returned (.int .i64 (endQ l m i : Nat)) ∧ Gro w w' := by
 have eg : ∀ args w, (callFunc 88 args).run Tryz.prog w = .ok (.enter 88 args) w := enters_of Tryz.func88 (by kernel_rfl) rfl
 have hcon := Any.sort_Search Tryz.search 88 #[.pointer (some ⟨bl, 0, none⟩), .pointer (some ⟨bv, 0, none⟩), .pointer (some ⟨bi, 0, none⟩)] n (fun k => decide (i < quaC (cat l k) m)) w eg (by omega)
  (fun q os k hk => by
   have hb := below_grow w q os
   have := seek_gro bl bv bi A c n m i k l (grow (w.drewN q) os) ((hb.cell (p := ⟨bl, 0, none⟩) (lt_of_cell hl)).trans hl) ((hb.cell (p := ⟨bv, 0, none⟩) (lt_of_cell hv)).trans hv) ((hb.cell (p := ⟨bi, 0, none⟩) (lt_of_cell hi)).trans hi) (h.below hb) hn hR hm hk
   exact this.mono fun e w' ⟨he, hG⟩ => ⟨he, gro_grow hG⟩)
  (fun a b hab hb hp => decide_eq_true (Nat.lt_of_lt_of_le (of_decide_eq_true hp) (hmono a b hab hb)))
 change Calls Tryz.prog 87 _ _ _ at hcon
 refine hcon.mono ?_
 rintro e w' ⟨rfl, q, os, rfl⟩
 refine ⟨?_, below_grow w q os, Nat.le_add_right _ _⟩
 congr 3
 unfold endQ
 rw [← hn]
 conv => rhs; rw [← cat_range l, List.countP_map]
 congr 1
 funext k
 simp only [Function.comp]
 by_cases hk : i < quaC (cat l k) m
 ·
  rw [decide_eq_true hk, decide_eq_false (by omega)]; rfl
 ·
  rw [decide_eq_false hk, decide_eq_true (by omega)]; rfl
end Go.Proofs.YtmfncapgikobkaaGreat

namespace Go.Proofs.YtmfncapgikobkaaGreat
set_option maxRecDepth 100000
set_option linter.unusedVariables false
set_option linter.unusedSimpArgs false
open Nds Num
def Zs (l : List Cv) : Prop := l.Pairwise fun a b => zq (val a.xs) (val a.ys) ≤ zq (val b.xs) (val b.ys)
theorem Zs.quarters {m hx hy : Nat} {l : List Cv} (h : Zs l) (hb : HiB (m + 1) hx hy l) : l.Pairwise fun a b => quaC a m ≤ quaC b m := by
 refine List.Pairwise.imp_of_mem (fun {a b} ha hb' hab => ?_) h
 obtain ⟨a1, a2⟩ := hb a ha
 obtain ⟨b1, b2⟩ := hb b hb'
 exact qtr_mono (a1.trans b1.symm) (a2.trans b2.symm) hab
theorem sorted_take (f : Cv → Nat) (i : Nat) : ∀ {l : List Cv}, l.Pairwise (fun a b => f a ≤ f b) →
  l.take (l.countP fun v => decide (f v ≤ i)) = l.filter (fun v => decide (f v ≤ i)) ∧ l.drop (l.countP fun v => decide (f v ≤ i)) = l.filter (fun v => decide (i < f v))
 | [], _ => ⟨rfl, rfl⟩
 | v :: l, h => by
  obtain ⟨h1, h2⟩ := List.pairwise_cons.1 h
  obtain ⟨i1, i2⟩ := sorted_take f i h2
  by_cases hv : f v ≤ i
  ·
   rw [List.countP_cons_of_pos (by simpa using hv), List.filter_cons, List.filter_cons, if_pos (by simpa using hv), if_neg (by simp; omega), List.take_succ_cons, List.drop_succ_cons, i1, i2]
   exact ⟨rfl, rfl⟩
  ·
   have h0 : l.countP (fun v => decide (f v ≤ i)) = 0 := by
    rw [List.countP_eq_zero]
    intro u hu
    have := h1 u hu
    simp
    omega
   have h3 : l.filter (fun v => decide (i < f v)) = l := List.filter_eq_self.2 fun u hu => by
    have := h1 u hu
    simp
    omega
   have h4 : l.filter (fun v => decide (f v ≤ i)) = [] := List.filter_eq_nil_iff.2 fun u hu => by
    have := h1 u hu
    simp
    omega
   rw [List.countP_cons_of_neg (by simpa using hv), h0, List.filter_cons, List.filter_cons, if_neg (by simpa using hv), if_pos (by simp; omega), h3, h4]
   exact ⟨rfl, rfl⟩
def remQ (l : List Cv) (m j : Nat) : List Cv := l.filter fun v => decide (j ≤ quaC v m)
theorem rem_zero (l : List Cv) (m : Nat) : remQ l m 0 = l := List.filter_eq_self.2 fun v _ => by simp
theorem rem_sub {l : List Cv} {m j : Nat} {v : Cv} (h : v ∈ remQ l m j) : v ∈ l := (List.mem_filter.1 h).1
theorem rem_next {l : List Cv} {m j : Nat} (hs : l.Pairwise fun a b => quaC a m ≤ quaC b m) {i : Nat} (hne : remQ l m j ≠ []) (hi : i = quaC (cat (remQ l m j) 0) m) :
  j ≤ i ∧ i < 4 ∧ (∀ k, j ≤ k → k < i → l.filter (inQ m k) = []) ∧ (remQ l m j).take (endQ (remQ l m j) m i) = l.filter (inQ m i) ∧ (remQ l m j).drop (endQ (remQ l m j) m i) = remQ l m (i + 1) ∧ 0 < endQ (remQ l m j) m i := by
 have hsr : (remQ l m j).Pairwise fun a b => quaC a m ≤ quaC b m := hs.filter _
 obtain ⟨v, r, hr⟩ := List.exists_cons_of_ne_nil hne
 have hv0 : cat (remQ l m j) 0 = v := by rw [hr]; rfl
 rw [hv0] at hi
 have hvm : v ∈ remQ l m j := by rw [hr]; simp
 have hji : j ≤ i := by
  have := (List.mem_filter.1 hvm).2
  simp only [decide_eq_true_eq] at this
  omega
 have hmin : ∀ u ∈ remQ l m j, i ≤ quaC u m := fun u hu => by
  rw [hr] at hu hsr
  rcases List.mem_cons.1 hu with rfl | hu
  ·
   omega
  ·
   have := List.rel_of_pairwise_cons hsr hu
   omega
 obtain ⟨t1, t2⟩ := sorted_take (fun v => quaC v m) i hsr
 refine ⟨hji, by rw [hi]; exact qtr_lt _ _ _, fun k h1 h2 => ?_, ?_, ?_, ?_⟩
 ·
  refine List.filter_eq_nil_iff.2 fun u hu => ?_
  unfold inQ
  intro e
  have e2 : quaC u m = k := by simpa using e
  have := hmin u (List.mem_filter.2 ⟨hu, by simp; omega⟩)
  omega
 ·
  unfold endQ
  rw [t1]
  unfold remQ
  rw [List.filter_filter]
  refine List.filter_congr fun u hu => ?_
  unfold inQ
  by_cases h1 : j ≤ quaC u m
  ·
   have h2 := hmin u (List.mem_filter.2 ⟨hu, by simpa using h1⟩)
   rw [decide_eq_true h1, Bool.and_true]
   by_cases h3 : quaC u m = i
   ·
    rw [h3]; simp
   ·
    rw [decide_eq_false (by omega)]
    symm
    simpa using h3
  ·
   rw [decide_eq_false h1, Bool.and_false]
   symm
   simp
   omega
 ·
  unfold endQ
  rw [t2]
  unfold remQ
  rw [List.filter_filter]
  refine List.filter_congr fun u hu => ?_
  by_cases h1 : i < quaC u m
  ·
   rw [decide_eq_true h1, decide_eq_true (show j ≤ quaC u m by omega), decide_eq_true (show i + 1 ≤ quaC u m by omega)]; rfl
  ·
   rw [decide_eq_false h1, decide_eq_false (show ¬ i + 1 ≤ quaC u m by omega)]; rfl
 ·
  unfold endQ
  exact List.countP_pos_iff.2 ⟨v, hvm, by simp; omega⟩
def fQ (m : Nat) (l : List Cv) (k : Nat) : Tr := treeZ m (l.filter (inQ m k))
theorem fQ_wf {m : Nat} {l : List Cv} (hm : m ≤ 1329) (hs : ∀ v ∈ l, 1 ≤ v.st ∧ v.st ≤ 255) (k : Nat) : wfT (m : Int) (fQ m l k) := treeZ_wf m _ hm (fun v hv => hs v (List.mem_filter.1 hv).1)
theorem fQ_out {m : Nat} {l : List Cv} {out : List Nd} {j : Nat} : ∀ {i : Nat}, j ≤ i → (∀ k, j ≤ k → k < i → l.filter (inQ m k) = []) → outK (fQ m l) out i = outK (fQ m l) out j
 | 0, hji, _ => by rw [show j = 0 by omega]
 | i + 1, hji, h => by
  rcases Nat.lt_or_ge i j with h1 | h1
  ·
   rw [show j = i + 1 by omega]
  ·
   show (enc (fQ m l i) (outK (fQ m l) out i)).1 = _
   rw [show fQ m l i = .e by unfold fQ; rw [h i h1 (by omega), treeZ_nil]]
   exact fQ_out h1 (fun k h2 h3 => h k h2 (by omega))
theorem fQ_num {m : Nat} {l : List Cv} {out : List Nd} {k : Nat} (h : l.filter (inQ m k) = []) : numK (fQ m l) out k = 0 := by
 unfold numK
 rw [show fQ m l k = .e by unfold fQ; rw [h, treeZ_nil]]
 rfl
theorem fQ_mix {m : Nat} {l : List Cv} {out : List Nd} {v : Int} {j i : Nat} (hji : j ≤ i) (hi : i ≤ 4) (h : ∀ k, j ≤ k → k < i → l.filter (inQ m k) = []) : mix ⟨v, 0, 0, 0, 0⟩ (topN (fQ m l) out v) i = mix ⟨v, 0, 0, 0, 0⟩ (topN (fQ m l) out v) j := by
 have key : ∀ k, k < 4 → (if k < i then numK (fQ m l) out k else 0) = (if k < j then numK (fQ m l) out k else 0) := fun k hk => by
  by_cases h1 : k < j
  ·
   rw [if_pos h1, if_pos (by omega)]
  ·
   by_cases h2 : k < i
   ·
    rw [if_neg h1, if_pos h2, fQ_num (h k (by omega) h2)]
   ·
    rw [if_neg h1, if_neg h2]
 unfold mix topN
 dsimp only
 rw [key 0 (by decide), key 1 (by decide), key 2 (by decide), key 3 (by decide)]
theorem treeZ_succ {m : Nat} {l : List Cv} (hne : l ≠ []) : treeZ (m + 1) l = .n ((m : Int) + 1) (fQ m l 0) (fQ m l 1) (fQ m l 2) (fQ m l 3) := mk_eta (treeZ_ne (m + 1) hne)
theorem fQ_q (m : Nat) (l : List Cv) : ∀ i, i < 4 → (Tr.n ((m : Int) + 1) (fQ m l 0) (fQ m l 1) (fQ m l 2) (fQ m l 3)).q i = fQ m l i := fun i hi => by
 match i, hi with
 | 0, _ => rfl
 | 1, _ => rfl
 | 2, _ => rfl
 | 3, _ => rfl
theorem enc_Z {m : Nat} {l : List Cv} (hne : l ≠ []) (out : List Nd) : enc (treeZ (m + 1) l) out = ((add (outK (fQ m l) out 4) (topN (fQ m l) out ((m : Int) + 1))).1, ((add (outK (fQ m l) out 4) (topN (fQ m l) out ((m : Int) + 1))).2 : Int)) := by
 rw [treeZ_succ hne, enc_n, outK_congr 4 (fun i hi => fQ_q m l i hi), topN_congr (fun i hi => fQ_q m l i hi)]
theorem enc_K {m : Nat} {l : List Cv} {out : List Nd} (hm : m ≤ 1329) (hs : ∀ v ∈ l, 1 ≤ v.st ∧ v.st ≤ 255) (hg : GoodL out) : ∀ k, k ≤ 4 → EncK (m : Int) (fQ m l) out k :=
 encK_of hg fun i _ o ho => enc_spec _ _ o (fQ_wf hm hs i) ho
theorem topQ_wf {m : Nat} {l : List Cv} {out : List Nd} (hm : m + 1 ≤ 1329) (hne : l ≠ []) (hs : ∀ v ∈ l, 1 ≤ v.st ∧ v.st ≤ 255) (hg : GoodL out) (hlen : (outK (fQ m l) out 4).length ≤ 1000000) : (topN (fQ m l) out ((m : Int) + 1)).wf := by
 have hw := treeZ_wf (m + 1) l hm hs
 rw [treeZ_succ hne, show (((m + 1 : Nat)) : Int) = (m : Int) + 1 by omega] at hw
 have hk : EncK ((m : Int) + 1 - 1) (Tr.n ((m : Int) + 1) (fQ m l 0) (fQ m l 1) (fQ m l 2) (fQ m l 3)).q out 4 := by
  rw [show (m : Int) + 1 - 1 = (m : Int) by omega]
  refine encK_of hg (fun i hi o ho => ?_) 4 (Nat.le_refl _)
  rw [fQ_q m l i hi]
  exact enc_spec _ _ o (fQ_wf (by omega) hs i) ho
 have h := (top_of hw hk).1
 rw [outK_congr 4 (fun i hi => fQ_q m l i hi), topN_congr (fun i hi => fQ_q m l i hi)] at h
 exact fit_wf h hlen
theorem add_len (out : List Nd) (x : Nd) : (add out x).1.length ≤ out.length + 1 := by
 unfold add
 split
 ·
  simp
 ·
  exact Nat.le_succ _
theorem quarters_len (m : Nat) (l : List Cv) : (l.filter (inQ m 0)).length + (l.filter (inQ m 1)).length + (l.filter (inQ m 2)).length + (l.filter (inQ m 3)).length = l.length := by
 induction l with
 | nil => rfl
 | cons v l ih =>
  have h := qtr_lt m (val v.xs) (val v.ys)
  have e : quaC v m = qtr m (val v.xs) (val v.ys) := rfl
  rw [List.filter_cons, List.filter_cons, List.filter_cons, List.filter_cons]
  unfold inQ
  rw [← e] at h
  generalize quaC v m = q at h
  unfold inQ at ih
  obtain rfl | rfl | rfl | rfl : q = 0 ∨ q = 1 ∨ q = 2 ∨ q = 3 := by omega
  all_goals
   simp
   omega
theorem enc_len : ∀ (m : Nat) (l : List Cv) (out : List Nd), (enc (treeZ m l) out).1.length ≤ out.length + m * l.length
 | 0, [], out => Nat.le_add_right _ _
 | 0, v :: l, out => Nat.le_add_right _ _
 | m + 1, l, out => by
  by_cases hne : l = []
  ·
   subst hne
   rw [treeZ_nil]
   exact Nat.le_add_right _ _
  ·
   have h0 := enc_len m (l.filter (inQ m 0)) out
   have h1 := enc_len m (l.filter (inQ m 1)) (outK (fQ m l) out 1)
   have h2 := enc_len m (l.filter (inQ m 2)) (outK (fQ m l) out 2)
   have h3 := enc_len m (l.filter (inQ m 3)) (outK (fQ m l) out 3)
   have ha := add_len (outK (fQ m l) out 4) (topN (fQ m l) out ((m : Int) + 1))
   rw [enc_Z hne]
   have hq := quarters_len m l
   have hp : 0 < l.length := List.length_pos_iff.2 hne
   have hmul : m * (l.filter (inQ m 0)).length + m * (l.filter (inQ m 1)).length + m * (l.filter (inQ m 2)).length + m * (l.filter (inQ m 3)).length = m * l.length := by
    rw [← Nat.mul_add, ← Nat.mul_add, ← Nat.mul_add, hq]
   have e1 : (outK (fQ m l) out 1).length = (enc (treeZ m (l.filter (inQ m 0))) out).1.length := rfl
   have e2 : (outK (fQ m l) out 2).length = (enc (treeZ m (l.filter (inQ m 1))) (outK (fQ m l) out 1)).1.length := rfl
   have e3 : (outK (fQ m l) out 3).length = (enc (treeZ m (l.filter (inQ m 2))) (outK (fQ m l) out 2)).1.length := rfl
   have e4 : (outK (fQ m l) out 4).length = (enc (treeZ m (l.filter (inQ m 3))) (outK (fQ m l) out 3)).1.length := rfl
   rw [Nat.add_mul, Nat.one_mul]
   show (add (outK (fQ m l) out 4) (topN (fQ m l) out ((m : Int) + 1))).1.length ≤ _
   omega
end Go.Proofs.YtmfncapgikobkaaGreat

namespace Go.Proofs.YtmfncapgikobkaaGreat
set_option maxRecDepth 100000
set_option linter.unusedVariables false
set_option linter.unusedSimpArgs false
open Go.RowKit Nds Num
def RetNd (base bb bm : Nat) (v : Value) (r : List Nd × Int) (w : World) (e : Ending) (w' : World) : Prop :=
 ∃ v', e = .returned (.int .i64 r.2) ∧ Bd w' base bb bm v' r.1 ∧ (∀ k, v'.ownBlock = some k → v.ownBlock = some k ∨ w.heap.size ≤ k) ∧ Ky (BdP bb bm v) w w'
theorem Cs.take {w : World} {A : Option Addr} {c : Nat} {l : List Cv} (h : Cs w A c l) (k : Nat) : Cs w A c (l.take k) := by
 refine ⟨fun v hv => h.1 v (List.mem_of_mem_take hv), by rw [List.length_take]; have := h.2.1; omega, h.2.2.1, fun hn => ?_⟩
 rw [List.length_take] at hn
 obtain ⟨b, off, e, hb, hc⟩ := h.2.2.2 (by omega)
 refine ⟨b, off, e, hb, fun i hi => ?_⟩
 rw [List.length_take] at hi
 have e1 : cat (l.take k) i = cat l i := by
  unfold cat
  rw [List.getElem?_take, if_pos (by omega)]
 rw [e1]
 exact hc i (by omega)
theorem Cs.drop {w : World} {b off c : Nat} {l : List Cv} (h : Cs w (some ⟨b, off, none⟩) c l) (k : Nat) (hk : k ≤ l.length) (A' : Option Addr) (hA : k < l.length → A' = some ⟨b, off + k * 5, none⟩) : Cs w A' (c - k) (l.drop k) := by
 have h1 := h.2.1
 refine ⟨fun v hv => h.1 v (List.mem_of_mem_drop hv), by rw [List.length_drop]; omega, by have := h.2.2.1; omega, fun hn => ?_⟩
 rw [List.length_drop] at hn
 obtain ⟨b2, off2, e, hb, hc⟩ := h.2.2.2 (by omega)
 cases e
 refine ⟨b, off + k * 5, hA (by omega), hb, fun i hi => ?_⟩
 rw [List.length_drop] at hi
 have e1 : cat (l.drop k) i = cat l (k + i) := by
  unfold cat
  rw [List.getElem?_drop]
 rw [e1, show off + k * 5 + i * 5 = off + (k + i) * 5 by omega]
 exact hc (k + i) (by omega)
def lenAt (W : World) (B : Nat) : Nat := match W.cell? ⟨B, 0, none⟩ with | some (.slice _ n _) => n | _ => 0
theorem lenAt_of {W : World} {B : Nat} {A : Option Addr} {n c : Nat} (h : W.cell? ⟨B, 0, none⟩ = some (.slice A n c)) : lenAt W B = n := by
 unfold lenAt
 rw [h]
set_option maxRecDepth 100000 in
set_option maxHeartbeats 6400000 in
theorem node_zero (base bb bm : Nat) (v : Value) (out : List Nd) (A : Option Addr) (c n : Nat) (l : List Cv) (w : World) (hC : Cs w A c l) (hn : l.length = n) (hn0 : 0 < n) (h : Bd w base bb bm v out) :
  Calls Tryz.prog 62 #[.pointer (some ⟨bb, 0, none⟩), .slice A n c, .int .i64 0] w (RetNd base bb bm v (enc (treeZ 0 l) out) w) := by
 have hcap := hC.cap
 rw [hn] at hcap
 obtain ⟨b, off, rfl, hbl, hc⟩ := hC.at_ (by omega)
 obtain ⟨c1, c2, c3, c4, c5⟩ := hc 0 (by omega)
 simp only [Nat.zero_mul, Nat.add_zero] at c1 c2 c3 c4 c5
 have hu := hC.1 _ (cat_mem (i := 0) (by omega))
 have he : enc (treeZ 0 l) out = (out, ((cat l 0).st : Int)) := by
  cases l with
  | nil => simp at hn; omega
  | cons u l => rfl
 obtain ⟨s, hs⟩ : ∃ s, s = (cat l 0).st := ⟨_, rfl⟩
 have hs9 : s ≤ 255 := by rw [hs]; exact hu.2.2
 rw [he]
 rw [← hs] at c5 ⊢
 have HB := Lib.hid h
 have i1 : (0 : Int) < (n : Int) := by omega
 obtain ⟨W, hW⟩ : ∃ W : World, W = (w.alloc (.cells #[.slice (some ⟨b, off, none⟩) n c] 22)).alloc (.cells #[.int .i64 0] 3) := ⟨_, rfl⟩
 have HL := Lib.hid (show Below w.heap.size w W by rw [hW]; exact ((Below.refl _ w).alloc (Nat.le_refl _) _).alloc (by simp) _)
 have HW := Lib.hid hW
 clear hC hc hu he hs h hW c1 c2 c3 c4
 go_enter Tryz.func62, Tryz.ntmps62
 go_wp2_with fail
 go_ret
 rw [← HW.out]
 exact ⟨v, ret_int rfl, HB.out.next HL.out, fun k hk => .inl hk, (Ky.refl _ w).below HL.out⟩
end Go.Proofs.YtmfncapgikobkaaGreat

namespace Go.Proofs.YtmfncapgikobkaaGreat
set_option maxRecDepth 100000
set_option linter.unusedVariables false
set_option linter.unusedSimpArgs false
open Go.RowKit Nds Num
theorem NdBox.kidAt {w : World} {g : Nat} {x : Nd} (h : NdBox w g x) {k : Nat} (hk : k < 4) : w.cell? ⟨g, 1 + k, none⟩ = some (.int .i64 (x.kid k)) := by
 obtain ⟨h0, h1, h2, h3, h4⟩ := h.at_
 match k, hk with
 | 0, _ => exact h1
 | 1, _ => exact h2
 | 2, _ => exact h3
 | 3, _ => exact h4
structure NJ (w0 w : World) (base bb bm : Nat) (v : Value) (out : List Nd) (m : Nat) (l : List Cv) (j : Nat) (v1 : Value) (A : Option Addr) (c r : Nat) (W : World) : Prop where
 hr : (remQ l m j).length = r
 cs : Cs w0 A c (remQ l m j)
 bl : W.heap[w.heap.size]? = some (.cells #[.slice A r c] 22)
 bv : W.heap[w.heap.size + 1]? = some (.cells #[.int .i64 ((m : Int) + 1)] 3)
 bx : NdBox W (w.heap.size + 2) (mix ⟨(m : Int) + 1, 0, 0, 0, 0⟩ (topN (fQ m l) out ((m : Int) + 1)) j)
 bd : Bd W base bb bm v1 (outK (fQ m l) out j)
 vb : ∀ k, v1.ownBlock = some k → v.ownBlock = some k ∨ w.heap.size + 3 ≤ k
 ky : Ky (BdP bb bm v) w W
 sz : w.heap.size + 3 ≤ W.heap.size
theorem NJ.next {w0 w : World} {base bb bm : Nat} {v : Value} {out : List Nd} {m : Nat} {l : List Cv} {j : Nat} {v1 : Value} {A : Option Addr} {c r : Nat} {W W1 : World} (h : NJ w0 w base bb bm v out m l j v1 A c r W) (k : Below W.heap.size W W1) : NJ w0 w base bb bm v out m l j v1 A c r W1 :=
 have hs := h.sz
 ⟨h.hr, h.cs, (k.block _ (by omega)).trans h.bl, (k.block _ (by omega)).trans h.bv, h.bx.stay (k.block _ (by omega)), h.bd.next k, h.vb, h.ky.below k, Nat.le_trans h.sz k.size⟩
theorem NJ.below {w0 w : World} {base bb bm : Nat} {v : Value} {out : List Nd} {m : Nat} {l : List Cv} {j : Nat} {v1 : Value} {A : Option Addr} {c r : Nat} {W : World} (h : NJ w0 w base bb bm v out m l j v1 A c r W) (hb : Below w0.heap.size w0 w) (h1 : w0.heap.size ≤ bb ∧ w0.heap.size ≤ bm ∧ w0.heap.size ≤ base) (ho : ∀ k, v.ownBlock = some k → base ≤ k) : Below w0.heap.size w0 W :=
 hb.trans (h.ky.to hb.size (fun k hk => by
  rcases hk with rfl | rfl | hk
  ·
   exact h1.1
  ·
   exact h1.2.1
  ·
   exact Nat.le_trans h1.2.2 (ho k hk)))
def cntQ (m : Nat) (l : List Cv) (k : Nat) : Nat := l.countP fun v => decide (quaC v m < k)
theorem cntQ_succ (m : Nat) (l : List Cv) (k : Nat) : cntQ m l (k + 1) = cntQ m l k + (l.filter (inQ m k)).length := by
 unfold cntQ
 rw [← List.countP_eq_length_filter]
 induction l with
 | nil => rfl
 | cons v l ih =>
  rw [List.countP_cons, List.countP_cons, List.countP_cons, ih]
  unfold inQ
  rcases Nat.lt_trichotomy (quaC v m) k with h | h | h
  ·
   rw [if_pos (by simp; omega), if_pos (by simpa using h), if_neg (by simp; omega)]
   omega
  ·
   rw [if_pos (by simp; omega), if_neg (by simp; omega), if_pos (by simpa using h)]
   omega
  ·
   rw [if_neg (by simp; omega), if_neg (by simp; omega), if_neg (by simp; omega)]
   omega
theorem cntQ_le (m : Nat) (l : List Cv) (k : Nat) : cntQ m l k ≤ l.length := List.countP_le_length
theorem outK_len (m : Nat) (l : List Cv) (out : List Nd) : ∀ k, (outK (fQ m l) out k).length ≤ out.length + m * cntQ m l k
 | 0 => Nat.le_add_right _ _
 | k + 1 => by
  have h1 := outK_len m l out k
  have h2 := enc_len m (l.filter (inQ m k)) (outK (fQ m l) out k)
  rw [cntQ_succ, Nat.mul_add]
  show (enc (treeZ m (l.filter (inQ m k))) (outK (fQ m l) out k)).1.length ≤ _
  omega
set_option maxRecDepth 100000 in
set_option maxHeartbeats 6400000 in
theorem node_rec (base bb bm : Nat) (w0 : World) (hd : bb ≠ bm) (hb : bb < base ∧ bm < base) (hlo : w0.heap.size ≤ bb ∧ w0.heap.size ≤ bm) : ∀ (m : Nat), m ≤ 1329 → ∀ (A : Option Addr) (c n : Nat) (l : List Cv) (hx hy : Nat) (v : Value) (out : List Nd) (w : World),
  l.length = n → 0 < n → n ≤ 900000 → Cs w0 A c l → Below w0.heap.size w0 w → Bd w base bb bm v out → GoodL out → HiB m hx hy l → Zs l → (∀ u ∈ l, 1 ≤ u.st ∧ u.st ≤ 255) → (∀ u ∈ l, u.xs.length ≤ 60000 ∧ u.ys.length ≤ 60000) → out.length + m * n ≤ 900000 → base ≤ w.heap.size →
  Calls Tryz.prog 62 #[.pointer (some ⟨bb, 0, none⟩), .slice A n c, .int .i64 (m : Int)] w (RetNd base bb bm v (enc (treeZ m l) out) w) := by
 intro m
 induction m with
 | zero =>
  intro hm A c n l hx hy v out w hn hn0 hn9 hC hw hB hg hHi hZ hst hln hlen hbs
  exact node_zero base bb bm v out A c n l w (hC.below hw) hn hn0 hB
 | succ m ih =>
  intro hm A c n l hx hy v out w hn hn0 hn9 hC hw hB hg hHi hZ hst hln hlen hbs
  have hne : l ≠ [] := fun e => by subst e; simp at hn; omega
  have hcap := hC.cap
  rw [hn] at hcap
  have hQ := hZ.quarters hHi
  have hvo : ∀ k, v.ownBlock = some k → base ≤ k ∧ k < w.heap.size := fun k hk => hB.o.lt k hk
  obtain ⟨W, hW⟩ : ∃ W : World, W = (((w.alloc (.cells #[.slice A n c] 22)).alloc (.cells #[.int .i64 ((m : Int) + 1)] 3)).alloc (.cells #[.int .i64 ((m : Int) + 1), .int .i64 0, .int .i64 0, .int .i64 0, .int .i64 0] 56)) := ⟨_, rfl⟩
  have hL : Below w.heap.size w W := by rw [hW]; exact (((Below.refl _ w).alloc (Nat.le_refl _) _).alloc (by simp) _).alloc (by simp; omega) _
  have hJ0 : NJ w0 w base bb bm v out m l 0 v A c n W := by
   refine ⟨by rw [rem_zero]; exact hn, by rw [rem_zero]; exact hC, ?_, ?_, ?_, hB.next hL, fun k hk => .inl hk, (Ky.refl _ w).below hL, by rw [hW]; simp only [World.size_alloc]; omega⟩
   ·
    rw [hW]
    exact (Below.heap_alloc _ _ _ (by simp only [World.size_alloc]; omega)).trans ((Below.heap_alloc _ _ _ (by simp only [World.size_alloc]; omega)).trans (heap_alloc_new w _))
   ·
    rw [hW]
    refine (Below.heap_alloc _ _ _ (by simp only [World.size_alloc]; omega)).trans ?_
    have := heap_alloc_new (w.alloc (.cells #[.slice A n c] 22)) (.cells #[.int .i64 ((m : Int) + 1)] 3)
    rwa [World.size_alloc] at this
   ·
    rw [hW]
    have := NdBox.new ((w.alloc (.cells #[.slice A n c] 22)).alloc (.cells #[.int .i64 ((m : Int) + 1)] 3)) ⟨(m : Int) + 1, 0, 0, 0, 0⟩
    rwa [World.size_alloc, World.size_alloc] at this
  have HJ0 := Lib.hid hJ0
  have HW := Lib.hid hW
  have HIH := Lib.hid ih
  have HQQ := Lib.hid hQ
  have HST := Lib.hid hst
  have HLN := Lib.hid hln
  have HHI := Lib.hid hHi
  have HZZ := Lib.hid hZ
  have HGG := Lib.hid hg
  have HBB := Lib.hid hB
  have HW0 := Lib.hid hw
  have HVO := Lib.hid hvo
  have HNE := Lib.hid hne
  have HN := Lib.hid hn
  have HLEN := Lib.hid hlen
  have i0 : (((m + 1 : Nat) : Int)) = (m : Int) + 1 := by omega
  have i1 : (((m : Int) + 1) == 0) = false := by rw [beq_eq_false_iff_ne]; omega
  rw [i0]
  clear ih hQ hst hln hHi hZ hg hB hw hvo hne hn hlen hW hJ0 hL hC i0
  go_enter Tryz.func62, Tryz.ntmps62
  go_wp2_with fail
  go_loopw [9] (fun z wr => ∃ (j : Nat) (u v1 : Value) (A1 : Option Addr) (c1 r1 : Nat), z = u ∧ j ≤ 4 ∧ NJ w0 w base bb bm v out m l j v1 A1 c1 r1 wr) (fun _ W => lenAt W w.heap.size)
  case atStart => exact ⟨0, _, v, A, c, n, rfl, by omega, by rw [← HW.out]; exact HJ0.out⟩
  case round =>
   obtain ⟨j, u, v1, A1, c1, r1, rfl, hj4, hJ⟩ := hrel
   have HJ := Lib.hid hJ
   have cL := one_cell hJ.bl
   have fL := one_free hJ.bl
   have cV := one_cell hJ.bv
   have hrc := hJ.cs.cap
   rw [hJ.hr] at hrc
   obtain ⟨x1, x2, x3, x4, x5⟩ := hJ.bx.at_
   rw [show w.heap.size + 2 = w.heap.size + 1 + 1 by omega] at x1 x2 x3 x4 x5
   by_cases hr0 : r1 = 0
   ·
    subst hr0
    have t1 : decide (0 < (0 : Nat)) = false := rfl
    have hre : remQ l m j = [] := List.eq_nil_of_length_eq_zero hJ.hr
    have hemp : ∀ k, j ≤ k → k < 4 → l.filter (inQ m k) = [] := fun k hk _ => List.filter_eq_nil_iff.2 fun u hu e => by
     have h1 : quaC u m = k := by unfold inQ at e; simpa using e
     have h2 : u ∈ remQ l m j := List.mem_filter.2 ⟨hu, by simp; omega⟩
     rw [hre] at h2
     cases h2
    have hmix := fQ_mix (out := out) (v := (m : Int) + 1) hj4 (Nat.le_refl 4) hemp
    have hout := fQ_out (out := out) hj4 hemp
    rw [mix_four (x := ⟨(m : Int) + 1, 0, 0, 0, 0⟩) (y := topN (fQ m l) out ((m : Int) + 1)) rfl] at hmix
    rw [← hmix] at x1 x2 x3 x4 x5
    have HBD := Lib.hid (show Bd wr base bb bm v1 (outK (fQ m l) out 4) by rw [hout]; exact hJ.bd)
    have hk4 := enc_K (l := l) (m := m) (by omega) HST.out HGG.out 4 (Nat.le_refl 4)
    have hl4 : (outK (fQ m l) out 4).length ≤ 900000 := by
     have h1 : (add (outK (fQ m l) out 4) (topN (fQ m l) out ((m : Int) + 1))).1.length ≤ out.length + (m + 1) * l.length := by
      have := enc_len (m + 1) l out
      rw [enc_Z HNE.out] at this
      exact this
     have h2 : (outK (fQ m l) out 4).length ≤ (add (outK (fQ m l) out 4) (topN (fQ m l) out ((m : Int) + 1))).1.length := by
      unfold add
      split
      ·
       simp
      ·
       exact Nat.le_refl _
     have h3 := HLEN.out
     have h4 := HN.out
     rw [h4] at h1
     omega
    have hwf := topQ_wf (out := out) hm HNE.out HST.out HGG.out (by omega)
    obtain ⟨y, hy⟩ : ∃ y, y = topN (fQ m l) out ((m : Int) + 1) := ⟨_, rfl⟩
    rw [← hy] at x1 x2 x3 x4 x5 hwf
    have HY := Lib.hid hy
    have HWF := Lib.hid hwf
    have HK4 := Lib.hid hk4.good
    have HL4 := Lib.hid hl4
    clear hJ hre hemp hmix hout hk4 hl4 hwf hy
    go_wp2_with (go_at_call 89; go_loud (refine (number_any base bb bm v1 (outK (fQ m l) out 4) y _ HBD.out HK4.out HWF.out hd hb (by have := HJ.out.sz; omega) HL4.out).mono ?_; rintro e w5 ⟨v5, rfl, bd5, vb5, ky5⟩; have HB5 := Lib.hid bd5; have HV5 := Lib.hid vb5; have HK5 := Lib.hid ky5; clear bd5 vb5 ky5))
    go_ret
    refine ⟨v5, ?_, ?_, fun k hk => ?_, ?_⟩
    ·
     rw [enc_Z HNE.out, ← HY.out]
     rfl
    ·
     rw [enc_Z HNE.out, ← HY.out]
     exact HB5.out
    ·
     rcases HV5.out k hk with h1 | h1
     ·
      rcases HJ.out.vb k h1 with h2 | h2
      ·
       exact .inl h2
      ·
       exact .inr (by omega)
     ·
      have := HJ.out.sz
      exact .inr (by omega)
    ·
     refine HJ.out.ky.trans HK5.out (fun i hi hp => ?_)
     rcases hp with h1 | h1 | h1
     ·
      exact .inl h1
     ·
      exact .inr (.inl h1)
     ·
      rcases HJ.out.vb i h1 with h2 | h2
      ·
       exact .inr (.inr h2)
      ·
       omega
   ·
    have t1 : decide (0 < r1) = true := decide_eq_true (by omega)
    have i2 : (0 : Int) < (r1 : Int) := by omega
    have i3 : 0 < r1 := by omega
    have hrne : remQ l m j ≠ [] := fun e => by have := hJ.hr; rw [e] at this; simp at this; omega
    obtain ⟨i, hi⟩ : ∃ i, i = quaC (cat (remQ l m j) 0) m := ⟨_, rfl⟩
    have hnx := rem_next HQQ.out hrne hi
    have hbw := hJ.below HW0.out ⟨hlo.1, hlo.2, by omega⟩ (fun k hk => (HVO.out k hk).1)
    obtain ⟨b, off, hA1, hbl, hcl⟩ := (hJ.cs.below hbw).at_ (by rw [hJ.hr]; omega)
    subst hA1
    obtain ⟨c1_, c2_, c3_, c4_, c5_⟩ := hcl 0 (by rw [hJ.hr]; omega)
    simp only [Nat.zero_mul, Nat.add_zero] at c1_ c2_ c3_ c4_ c5_
    have hm0 : cat (remQ l m j) 0 ∈ l := rem_sub (cat_mem (by rw [hJ.hr]; omega))
    have hu := (hJ.cs.below hbw).1 _ (cat_mem (i := 0) (by rw [hJ.hr]; omega))
    have hu2 := HLN.out _ hm0
    obtain ⟨x, hxx⟩ : ∃ x, x = cat (remQ l m j) 0 := ⟨_, rfl⟩
    rw [← hxx] at c1_ c2_ c3_ c4_ c5_ hu hu2 hi
    have HXX := Lib.hid hxx
    have HI := Lib.hid hi
    have HU := Lib.hid hu
    have HNX := Lib.hid hnx
    have HBW := Lib.hid hbw
    have hx1 := hu.1.cap
    have hx2 := hu.2.1.cap
    have HCV := Lib.hid (show CvAt wr b off x from ⟨c1_, c2_, c3_, c4_, c5_⟩)
    have HLb := Lib.hid hbl
    have HRN := Lib.hid hrne
    have HSZ := Lib.hid hJ.sz
    have st : Gro wr wr.drew := (Gro.refl wr).drewN 1
    clear hJ hnx hbw hcl hm0 hu hxx hi hrne x1 x2 x3 x4 x5
    have n1 := World.new_ne wr _ cL
    have n2 := World.new_ne wr _ cV
    have n3 := World.new_ne wr _ c1_
    have n4 := World.new_ne wr _ c2_
    have n5 := World.new_ne wr _ c3_
    have n6 := World.new_ne wr _ c4_
    have n7 := World.new_ne wr _ c5_
    go_wp2_with fail
    go_cut [8] from 22 to 26 (fun s8 wx => ∃ gi, s8 = .pointer (some ⟨gi, 0, none⟩) ∧ wx.heap[gi]? = some (.cells #[.int .i64 (i : Int)] 3) ∧ Below wr.heap.size wr wx ∧ wr.heap.size ≤ gi)
    case first =>
     go_region_held3 (fun w' => w'.cell? ⟨w.heap.size, 0, none⟩ = some (.slice (some ⟨b, off, none⟩) r1 c1) ∧ w'.cell? ⟨w.heap.size + 1, 0, none⟩ = some (.int .i64 ((m : Int) + 1)) ∧ (w'.cell? ⟨b, off, none⟩ = some (.bool x.sx) ∧ w'.cell? ⟨b, off + 1, none⟩ = some (.slice x.ax x.xs.length x.cx) ∧ w'.cell? ⟨b, off + 2, none⟩ = some (.bool x.sy) ∧ w'.cell? ⟨b, off + 3, none⟩ = some (.slice x.ay x.ys.length x.cy) ∧ w'.cell? ⟨b, off + 4, none⟩ = some (.int .u8 x.st)))
      (first | go_keep | exact ⟨k0, k1, ⟨e1, e2, e3, e4, e5⟩⟩)
      (first | (go_at_call 86; go_loud (refine (quarter_gro x m _ (HU.out.below (by first | exact st.b | exact (st.alloc _).b)) hu2.1 hu2.2 (by omega)).mono ?_; rintro e w1 ⟨rfl, g1⟩; rw [← HI.out]; have st1 : Gro wr w1 := (by first | exact st.trans g1 | exact (st.alloc _).trans g1); have k0 := (st1.b.cell (p := ⟨w.heap.size, 0, none⟩) (by have := HSZ.out; show w.heap.size < _; omega)).trans cL; have k1 := (st1.b.cell (p := ⟨w.heap.size + 1, 0, none⟩) (by have := HSZ.out; show w.heap.size + 1 < _; omega)).trans cV; obtain ⟨e1, e2, e3, e4, e5⟩ := HCV.out.below (st1.b.block b HLb.out); (try (have kab := g1.b.block wr.heap.size (by simp); have ka : w1.cell? ⟨wr.heap.size, 0, none⟩ = some (.int .i64 0) := one_cell (kab.trans (heap_alloc_new wr.drew _)); have kf : w1.frozen? ⟨wr.heap.size, 0, none⟩ = false := one_free (kab.trans (heap_alloc_new wr.drew _)))))))
     all_goals
      go_wp2_with fail
      go_meet
      first
       | exact ⟨_, rfl, heap_setCell_same _ _ 0 _ _ _ ((g1.b.block _ (by simp)).trans (heap_alloc_new wr.drew _)), st1.b.setCell (p := ⟨wr.heap.size, 0, none⟩) (Nat.le_refl _) _, Nat.le_refl _⟩
       | exact ⟨_, rfl, heap_alloc_new w1 _, st1.b.alloc st1.b.size _, st1.b.size⟩
    case rest =>
     obtain ⟨gi, rfl, hgi, hbc, hgil⟩ := hcut
     have hJc := HJ.out.next hbc
     have HJC := Lib.hid hJc
     have HGI := Lib.hid hgi
     have HBC := Lib.hid hbc
     have HGL := Lib.hid hgil
     obtain ⟨n1', n2', n3', n4', n5', n6'⟩ := HNX.out
     have cL2 := one_cell hJc.bl
     have cV2 := one_cell hJc.bv
     have cI2 := one_cell hgi
     have hbwc := hJc.below HW0.out ⟨hlo.1, hlo.2, by omega⟩ (fun k hk => (HVO.out k hk).1)
     have hsorted : (remQ l m j).Pairwise fun a b => quaC a m ≤ quaC b m := HQQ.out.filter _
     have hse := search_any w.heap.size (w.heap.size + 1) gi (some ⟨b, off, none⟩) c1 r1 m i (remQ l m j) wc cL2 cV2 cI2 (hJc.cs.below hbwc) hJc.hr (fun u hu => HLN.out u (rem_sub hu)) (by omega) (by have := HJ.out.hr; have h2 := List.length_filter_le (fun v => decide (j ≤ quaC v m)) l; unfold remQ at this; have := HN.out; omega)
      (fun p q hpq hq => by
       rcases Nat.lt_or_ge p q with h1 | h1
       ·
        rw [cat_get (by rw [hJc.hr]; omega), cat_get (by rw [hJc.hr]; omega)]
        exact List.pairwise_iff_getElem.1 hsorted p q _ _ h1
       ·
        rw [show p = q by omega]; exact Nat.le_refl _)
     have HSE := Lib.hid hse
     obtain ⟨q, hq⟩ : ∃ q, q = endQ (remQ l m j) m i := ⟨_, rfl⟩
     have HQE := Lib.hid hq
     have hqr : q ≤ r1 := by rw [hq, ← hJc.hr]; exact List.countP_le_length
     have hq0 : 0 < q := by rw [hq]; exact n6'
     have HFL := Lib.hid (show (l.filter (inQ m i)).length = q by
      have h1 := congrArg List.length n4'
      rw [List.length_take, hJc.hr, ← hq] at h1
      omega)
     have HTK := Lib.hid (show (remQ l m j).take q = l.filter (inQ m i) by rw [hq]; exact n4')
     have HDR := Lib.hid (show (remQ l m j).drop q = remQ l m (i + 1) by rw [hq]; exact n5')
     have HJI := Lib.hid (And.intro n1' (And.intro n2' n3'))
     have hOI := fQ_out (out := out) n1' n3'
     have hMI := fQ_mix (out := out) (v := (m : Int) + 1) n1' (by omega) n3'
     have HOI := Lib.hid hOI
     have HMI := Lib.hid hMI
     clear hJc hgi hbc hgil hbwc hsorted hse hq n4' n5' n6' n3' hOI hMI
     go_wp2_with (go_at_call 87; go_loud (refine HSE.out.mono ?_; rintro e w6 ⟨rfl, g6⟩; rw [← HQE.out]; have G6 := Lib.hid g6; clear g6))
     have hJ6 := HJC.out.next G6.out.b
     have hI6 := (G6.out.b.block gi (Array.getElem?_eq_some_iff.1 HGI.out).1).trans HGI.out
     have HJ6 := Lib.hid hJ6
     have HI6 := Lib.hid hI6
     have cL6 := one_cell hJ6.bl
     have fL6 := one_free hJ6.bl
     have cV6 := one_cell hJ6.bv
     have cI6 := one_cell hI6
     have m1 := World.new_ne w6 _ cL6
     have m2 := World.new_ne w6 _ cV6
     have m3 := World.new_ne w6 _ cI6
     have jw1 : IntKind.i64.wrap ((m : Int) + 1 - 1) = (m : Int) := by rw [show (m : Int) + 1 - 1 = (m : Int) by omega]; simp [IntKind.wrap, IntKind.bits, IntKind.signed]; omega
     have jw2 : IntKind.i64.wrap (m : Int) = (m : Int) := by simp [IntKind.wrap, IntKind.bits, IntKind.signed]; omega
     have q1 : (0 : Int) ≤ (q : Int) := by omega
     have q2 : (q : Int) ≤ (c1 : Int) := by omega
     have q3 : (q : Int) ≤ (r1 : Int) := by omega
     have q4 : (0 : Int) ≤ (i : Int) := by omega
     have q5 : (i : Int) < 4 := by omega
     have hGX : gi ≠ w.heap.size ∧ gi ≠ w.heap.size + 1 ∧ gi ≠ w.heap.size + 2 := by have h1 := HGL.out; have h2 := HSZ.out; omega
     have HGX := Lib.hid hGX
     have hlenI : (outK (fQ m l) out i).length + m * q ≤ 900000 := by
      have h1 := outK_len m l out i
      have h2 := cntQ_succ m l i
      have h3 := cntQ_le m l (i + 1)
      rw [HFL.out] at h2
      have h4 := HN.out
      have h5 := HLEN.out
      have h6 : m * cntQ m l i + m * q ≤ m * n := by rw [← Nat.mul_add]; exact Nat.mul_le_mul_left _ (by omega)
      rw [Nat.add_mul, Nat.one_mul] at h5
      omega
     have HLI := Lib.hid hlenI
     have hv1 : ∀ k, v1.ownBlock = some k → base ≤ k ∧ k ≠ w.heap.size ∧ k ≠ w.heap.size + 1 ∧ k ≠ w.heap.size + 2 ∧ k ≠ gi := fun k hk => by
      have h1 := (HJ.out.bd.o.lt k hk)
      have h2 := HGL.out
      rcases HJ.out.vb k hk with h3 | h3
      ·
       have h4 := (HVO.out k h3).2
       have h5 := HSZ.out
       omega
      ·
       omega
     have HV1 := Lib.hid hv1
     have hnp : ∀ k, (k = w.heap.size ∨ k = w.heap.size + 1 ∨ k = w.heap.size + 2 ∨ k = gi) → ¬ BdP bb bm v1 k := fun k hk hp => by
      have h1 := HGL.out
      have h5 := HSZ.out
      rcases hp with h2 | h2 | h2
      ·
       omega
      ·
       omega
      ·
       have := hv1 k h2; omega
     have HNP := Lib.hid hnp
     have st6 : Below w6.heap.size w6 w6.drew := below_drewN (Below.refl _ w6) 1
     have hbd6 : Bd w6.drew base bb bm v1 (outK (fQ m l) out i) := by rw [HOI.out]; exact hJ6.bd.next st6
     have hw6 := (hJ6.next st6).below HW0.out ⟨hlo.1, hlo.2, by omega⟩ (fun k hk => (HVO.out k hk).1)
     have hcall := HIH.out (by omega) (some ⟨b, off, none⟩) c1 q (l.filter (inQ m i)) _ _ v1 (outK (fQ m l) out i) w6.drew HFL.out hq0 (by have := HFL.out; have h2 := List.length_filter_le (inQ m i) l; have := HN.out; omega) (by rw [← HTK.out]; exact HJ.out.cs.take q) hw6 hbd6 (enc_K (l := l) (m := m) (by omega) HST.out HGG.out i (by omega)).good (hi_quarter HHI.out HJI.out.2.1) (HZZ.out.filter _) (fun u hu => HST.out u (List.mem_filter.1 hu).1) (fun u hu => HLN.out u (List.mem_filter.1 hu).1) hlenI (by have h1 := (hJ6.next st6).sz; omega)
     have HCALL := Lib.hid hcall
     clear hJ6 hI6 hGX hlenI hv1 hnp hbd6 hw6 hcall
     go_region_held3 (fun w' => w'.cell? ⟨w.heap.size, 0, none⟩ = some (.slice (some ⟨b, off, none⟩) r1 c1) ∧ w'.cell? ⟨w.heap.size + 1, 0, none⟩ = some (.int .i64 ((m : Int) + 1)) ∧ w'.cell? ⟨gi, 0, none⟩ = some (.int .i64 (i : Int)))
      (first | go_keep | exact ⟨k0, k1, k2⟩)
      (first | (go_at_call 62; go_loud (refine HCALL.out.mono ?_; rintro e w7 ⟨v7, rfl, bd7, vb7, ky7⟩; have k0 := one_cell ((ky7.block w.heap.size (by have := (HJ6.out.next st6).sz; omega) (HNP.out _ (.inl rfl))).trans (HJ6.out.next st6).bl); have k1 := one_cell ((ky7.block (w.heap.size + 1) (by have := (HJ6.out.next st6).sz; omega) (HNP.out _ (.inr (.inl rfl)))).trans (HJ6.out.next st6).bv); have k2 := one_cell ((ky7.block gi (Array.getElem?_eq_some_iff.1 HI6.out).1 (HNP.out _ (.inr (.inr (.inr rfl))))).trans HI6.out); have kx := (HJ6.out.next st6).bx.stay (ky7.block (w.heap.size + 2) (by have := (HJ6.out.next st6).sz; omega) (HNP.out _ (.inr (.inr (.inl rfl))))); have k3 := kx.kidAt HJI.out.2.1; have k4 := kx.free (1 + i); rw [show w.heap.size + 2 = w.heap.size + 1 + 1 by omega] at k3 k4; have z1 : w.heap.size + 1 + 1 ≠ w.heap.size := (by omega); have z2 : w.heap.size + 1 + 1 ≠ w.heap.size + 1 := (by omega); have z3 : w.heap.size + 1 + 1 ≠ gi := (by have := HGX.out; omega); have z4 := z1.symm; have z5 := z2.symm; have z6 := z3.symm)))
     all_goals
      have bl7 := (ky7.block w.heap.size (by have := (HJ6.out.next st6).sz; omega) (HNP.out _ (.inl rfl))).trans (HJ6.out.next st6).bl
      have bv7 := (ky7.block (w.heap.size + 1) (by have := (HJ6.out.next st6).sz; omega) (HNP.out _ (.inr (.inl rfl)))).trans (HJ6.out.next st6).bv
      have sz7 := Nat.le_trans (HJ6.out.next st6).sz ky7.size
      rw [← HMI.out] at kx
      have kx8 := kx.setKid (o := 1 + i) (u := (enc (treeZ m (l.filter (inQ m i))) (outK (fQ m l) out i)).2) HJI.out.2.1 rfl (by rw [topN_kid _ _ _ HJI.out.2.1]; rfl)
      have gs8 := gb_setCell w7 ⟨w.heap.size + 2, 1 + i, none⟩ (.int .i64 (enc (treeZ m (l.filter (inQ m i))) (outK (fQ m l) out i)).2)
      have bl8 := (gs8.block w.heap.size (by omega) (fun e => by have := Option.some.inj e; dsimp only at this; omega)).trans bl7
      have bv8 := (gs8.block (w.heap.size + 1) (by omega) (fun e => by have := Option.some.inj e; dsimp only at this; omega)).trans bv7
      have bd8 : Bd (w7.setCell ⟨w.heap.size + 2, 1 + i, none⟩ (.int .i64 (enc (treeZ m (l.filter (inQ m i))) (outK (fQ m l) out i)).2)) base bb bm v7 (outK (fQ m l) out (i + 1)) :=
       ⟨(gs8.block bb bd7.lt (fun e => by have := Option.some.inj e; dsimp only at this; omega)).trans bd7.bx, bd7.o.gbr gs8 (own_dec (fun k hk e => by
        have h1 := Option.some.inj e
        dsimp only at h1
        rcases vb7 k hk with h2 | h2
        ·
         have := HV1.out k h2; omega
        ·
         have h3 := (HJ6.out.next st6).sz; omega)), bd7.k.stay (gs8.block bm bd7.k.lt (fun e => by have := Option.some.inj e; dsimp only at this; omega))⟩
      have ky8 : Ky (BdP bb bm v) w (w7.setCell ⟨w.heap.size + 2, 1 + i, none⟩ (.int .i64 (enc (treeZ m (l.filter (inQ m i))) (outK (fQ m l) out i)).2)) :=
       (((HJ6.out.next st6).ky.trans ky7 (fun k hk hp => by
        rcases hp with h1 | h1 | h1
        ·
         exact .inl h1
        ·
         exact .inr (.inl h1)
        ·
         rcases HJ.out.vb k h1 with h2 | h2
         ·
          exact .inr (.inr h2)
         ·
          omega)).gb gs8 (fun k hk e => by have := Option.some.inj e; dsimp only at this; omega))
      have sz8 : w.heap.size + 3 ≤ (w7.setCell ⟨w.heap.size + 2, 1 + i, none⟩ (.int .i64 (enc (treeZ m (l.filter (inQ m i))) (outK (fQ m l) out i)).2)).heap.size := Nat.le_trans sz7 gs8.size
      have HVB7 := Lib.hid vb7
      rw [show w.heap.size + 2 = w.heap.size + 1 + 1 by omega] at bl8 bv8 bd8 ky8 sz8
      rw [show (⟨w.heap.size + 2, 1 + i, none⟩ : Addr) = ⟨w.heap.size + 1 + 1, 1 + i, none⟩ by rw [show w.heap.size + 2 = w.heap.size + 1 + 1 by omega]] at kx8
      generalize w7.setCell ⟨w.heap.size + 1 + 1, 1 + i, none⟩ (.int .i64 (enc (treeZ m (l.filter (inQ m i))) (outK (fQ m l) out i)).2) = W8 at *
      have HBL8 := Lib.hid bl8
      have HBV8 := Lib.hid bv8
      have HBD8 := Lib.hid bd8
      have HKY8 := Lib.hid ky8
      have HSZ8 := Lib.hid sz8
      have HKX8 := Lib.hid kx8
      have r0 := one_cell bl8
      have r0f := one_free bl8
      have hsz6 := (HJ6.out.next st6).sz
      clear kx k0 k1 k2 k3 k4 bl7 bv7 sz7 gs8 bl8 bv8 bd8 ky8 sz8 kx8 vb7 ky7 bd7 cL6 fL6 cV6 cI6 cL2 cV2 cI2 cL fL cV
      go_wp2_with fail
      obtain ⟨A9, hA9⟩ : ∃ A9 : Option Addr, A9 = if c1 = q then some ⟨b, off, none⟩ else some ⟨b, off + q * 5, none⟩ := ⟨_, rfl⟩
      rw [← hA9]
      have gs9 := gb_setCell W8 ⟨w.heap.size, 0, none⟩ (.slice A9 (r1 - q) (c1 - q))
      have hbl9 := heap_setCell_same W8 w.heap.size 0 _ _ (.slice A9 (r1 - q) (c1 - q)) HBL8.out
      have ne9 : ∀ k, k ≠ w.heap.size → (some k : Option Nat) ≠ some (⟨w.heap.size, 0, none⟩ : Addr).block := fun k hk e => hk (Option.some.inj e)
      have hrl := HJ.out.hr
      have hs8 := HSZ8.out
      refine ⟨⟨i + 1, _, v7, A9, c1 - q, r1 - q, rfl, by have := HJI.out.2.1; omega, ?_⟩, ?_⟩
      ·
       refine ⟨by rw [← HDR.out, List.length_drop, hrl], ?_, hbl9, (gs9.block _ (by omega) (ne9 _ (by omega))).trans HBV8.out, HKX8.out.stay (gs9.block _ (by omega) (ne9 _ (by omega))), ?_, fun k hk => ?_, HKY8.out.gb gs9 (fun k hk e => by have := Option.some.inj e; dsimp only at this; omega), Nat.le_trans HSZ8.out gs9.size⟩
       ·
        rw [← HDR.out]
        refine HJ.out.cs.drop q (by rw [hrl]; exact hqr) A9 (fun hlt => ?_)
        rw [hrl] at hlt
        rw [hA9, if_neg (by omega)]
       ·
        refine ⟨(gs9.block bb HBD8.out.lt (ne9 _ (by omega))).trans HBD8.out.bx, HBD8.out.o.gbr gs9 (own_dec (fun k hk e => ?_)), HBD8.out.k.stay (gs9.block bm HBD8.out.k.lt (ne9 _ (by omega)))⟩
        have h1 := Option.some.inj e
        dsimp only at h1
        rcases HVB7.out k hk with h2 | h2
        ·
         have := HV1.out k h2; omega
        ·
         omega
       ·
        rcases HVB7.out k hk with h2 | h2
        ·
         exact HJ.out.vb k h2
        ·
         exact .inr (by omega)
      ·
       rw [lenAt_of (one_cell hbl9), lenAt_of (one_cell HJ.out.bl)]
       omega
end Go.Proofs.YtmfncapgikobkaaGreat
