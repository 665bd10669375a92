/-
  canon: ordered's add.
-/
import Derived.Test.YtbcolelgbbmjkaaNcKM

namespace Go.Proofs.Ytbcolelgbbmjkaa
set_option linter.unusedVariables false
set_option linter.unusedSimpArgs false
open Go.RowKit Nds
theorem box_cell {w : World} {g : Nat} {u : Value} {t : TypeId} (h : w.heap[g]? = some (.cells #[u] t)) : w.cell? ⟨g, 0, none⟩ = some u := by
  rw [cell_of_row w g _ _ _ _ h]
  rfl
theorem box_free {w : World} {g : Nat} {u : Value} {t : TypeId} (h : w.heap[g]? = some (.cells #[u] t)) : w.frozen? ⟨g, 0, none⟩ = false := frozen_of_row w g 0 _ _ h
theorem box_lt {w : World} {g : Nat} {o : Obj} (h : w.heap[g]? = some o) : g < w.heap.size := (Array.getElem?_eq_some_iff.1 h).1
theorem box_set {w : World} {g : Nat} {u : Value} {t : TypeId} (h : w.heap[g]? = some (.cells #[u] t)) (z : Value) : (w.setCell ⟨g, 0, none⟩ z).heap[g]? = some (.cells #[z] t) := heap_setCell_same w g 0 _ _ _ h
/-- What add answers. -/
def addR (out : List Nd) (x : Nd) : List Nd × Nat := if x.each (· == 0) = true then (out, 0) else add out x
/-- What may turn. -/
def PS (bS bk bm : Nat) (v : Value) : Nat → Prop := fun k => k = bS ∨ k = bk ∨ k = bm ∨ v.ownBlock = some k
/-- What add leaves. -/
def RetA (out : List Nd) (x : Nd) (bS bk bm base : Nat) (v : Value) (w : World) (e : Ending) (w' : World) : Prop :=
  ∃ v', e = .returned (.int .i64 (((addR out x).2 : Nat) : Int)) ∧ w'.heap[bS]? = some (.cells #[v'] 22) ∧ OwnN w' base v' (addR out x).1 ∧ KM w' bk (addR out x).1 ∧ (∀ k, v'.ownBlock = some k → v.ownBlock = some k ∨ w.heap.size ≤ k) ∧ Ky (PS bS bk bm v) w w' ∧ (w'.heap[bm]? = w.heap[bm]?)
theorem add_keep {w w6 : World} {o p : Obj} {r : Option Nat} (h : ((w.alloc o).alloc p).grownBy w6 r) : ∀ b, b < (w.alloc o).heap.size → r ≠ some b → w6.heap[b]? = (w.alloc o).heap[b]? := by
  intro b hb hne
  rw [h.block b (by simp at hb ⊢; omega) (fun e => hne e.symm)]
  exact Below.heap_alloc _ _ _ hb
theorem add_keepS {W w6 : World} {bK bS bk bm base gx : Nat} {v : Value} {out : List Nd} {x : Nd} {t : TypeId} {u : Value} (hkp : ∀ b, b < W.heap.size → v.ownBlock ≠ some b → w6.heap[b]? = W.heap[b]?) (hvb : ∀ b, b < base → v.ownBlock ≠ some b)
    (hd : bK ≠ bS ∧ bS ≠ bk ∧ bK ≠ bk ∧ bm ≠ bS ∧ bm ≠ bk) (hb : bK < base ∧ bS < base ∧ bk < base ∧ bm < base ∧ base ≤ gx) (hK : W.heap[bK]? = some (.cells #[u] t)) (hM : KM W bk out) (hX : NdBox W gx x) (hvx : v.ownBlock ≠ some gx) (z : Value) :
    (w6.setCell ⟨bS, 0, none⟩ z).heap[bK]? = some (.cells #[u] t) ∧ KM (w6.setCell ⟨bS, 0, none⟩ z) bk out ∧ NdBox (w6.setCell ⟨bS, 0, none⟩ z) gx x ∧ (bm < W.heap.size → (w6.setCell ⟨bS, 0, none⟩ z).heap[bm]? = W.heap[bm]?) := by
  have hs : ∀ b, b ≠ bS → (w6.setCell ⟨bS, 0, none⟩ z).heap[b]? = w6.heap[b]? := fun b hne => Below.heap_setCell _ _ _ _ hne
  refine ⟨?_, ?_, ?_, fun hbm => ?_⟩
  · rw [hs bK hd.1, hkp bK (box_lt hK) (hvb _ hb.1)]
    exact hK
  · exact hM.stay ((hs bk (fun e => hd.2.1 e.symm)).trans (hkp bk hM.lt (hvb _ hb.2.2.1)))
  · exact hX.stay ((hs gx (by omega)).trans (hkp gx hX.lt hvx))
  · exact (hs bm hd.2.2.2.1).trans (hkp bm hbm (hvb _ hb.2.2.2.1))
theorem add_goodR {out : List Nd} {x : Nd} (h : GoodL out) (h2 : GoodL (out ++ [x])) : GoodL (out ++ [x]) := h2
theorem add_wfR {out : List Nd} {x : Nd} (h : ∀ y ∈ out, y.wf) (hx : x.wf) : ∀ y ∈ out ++ [x], y.wf := fun y hy => by
  rcases List.mem_append.1 hy with h1 | h1
  · exact h y h1
  · rw [List.mem_singleton.1 h1]; exact hx
set_option maxRecDepth 100000 in
set_option maxHeartbeats 3200000 in
theorem add_any (bK bS bk bm base : Nat) (v : Value) (out : List Nd) (x : Nd) (w : World) (hk : w.heap[bK]? = some (.cells #[.map (some bk)] 53)) (hs : w.heap[bS]? = some (.cells #[v] 22)) (ho : OwnN w base v out) (hm : KM w bk out) (hg : GoodL out) (hx : x.wf) (hl9 : out.length ≤ 990000)
    (hgs : fnd out x = 0 → x.each (· == 0) = false → GoodL (out ++ [x])) (hb : bK < base ∧ bS < base ∧ bk < base ∧ bm < base) (hd : bK ≠ bS ∧ bS ≠ bk ∧ bK ≠ bk ∧ bm ≠ bS ∧ bm ≠ bk) (hbase : base ≤ w.heap.size) :
    Calls Try.prog 27 #[ndv x, .pointer (some ⟨bK, 0, none⟩), .pointer (some ⟨bS, 0, none⟩)] w (RetA out x bS bk bm base v w) := by
  obtain ⟨R, hR⟩ : ∃ R, R = RetA out x bS bk bm base v w := ⟨_, rfl⟩
  rw [← hR]
  have HR := Lib.hid hR
  obtain ⟨W, hW⟩ : ∃ W : World, W = w.alloc (.cells #[.int .i64 x.lv, .int .i64 x.a, .int .i64 x.b, .int .i64 x.c, .int .i64 x.d] 38) := ⟨_, rfl⟩
  have bW : Below w.heap.size w W := by rw [hW]; exact (Below.refl _ _).alloc (Nat.le_refl _) _
  have kW : Ky (PS bS bk bm v) w W := by rw [hW]; exact (Ky.refl _ _).alloc _
  have hk' := (bW.block bK (box_lt hk)).trans hk
  have hs' := (bW.block bS (box_lt hs)).trans hs
  have hm' := hm.stay (bW.block bk hm.lt)
  have ho' := ho.stays bW
  have hxb : NdBox W w.heap.size x := by rw [hW]; exact NdBox.new w x
  have hbmW : W.heap[bm]? = w.heap[bm]? := bW.block bm (by omega)
  have HKB := Lib.hid hk'
  have HSB := Lib.hid hs'
  have HMB := Lib.hid hm'
  have HOB := Lib.hid ho'
  have HXB := Lib.hid hxb
  have HKW := Lib.hid kW
  have HBM := Lib.hid hbmW
  have HOW := Lib.hid ho
  have HWF := Lib.hid ho.1
  have HG := Lib.hid hg
  have HWX := Lib.hid hx
  have HBS := Lib.hid (show bK < base ∧ bS < base ∧ bk < base ∧ bm < base ∧ base ≤ w.heap.size from ⟨hb.1, hb.2.1, hb.2.2.1, hb.2.2.2, hbase⟩)
  have HDS := Lib.hid hd
  have hq := eql_four x hx
  have hlk := hm'.lookK hg ho.1 x hx
  have hbW := Nat.le_trans hbase bW.size
  rcases hz : x.each (· == 0) with _ | _
  · have HZ := Lib.hid hz
    rw [hz] at hq
    rcases fnd_cases out x with ⟨hf, _⟩ | ⟨i, hi, hie, hf⟩
    · have HF := Lib.hid hf
      have hadd : addR out x = (out ++ [x], out.length + 1) := by unfold addR; rw [hz, if_neg (by simp), add_none hf]
      have HAD := Lib.hid hadd
      rw [hf] at hlk
      have HGS := Lib.hid (hgs hf hz)
      have hfl : fnd (out ++ [x]) x = out.length + 1 := by
        refine fnd_some (by simp) (at_last out x) fun j hj => ?_
        rcases fnd_cases out x with ⟨_, h⟩ | ⟨i, _, _, h⟩
        · rw [at_app hj]; exact h j hj
        · omega
      have HFL := Lib.hid hfl
      have s1 := box_cell hs'
      have k1 := box_cell hk'
      obtain ⟨x1, x2, x3, x4, x5⟩ := hxb.at_
      subst hW
      clear hk hs ho hm hg hx hb hd bW kW hk' hs' hm' ho' hxb hbmW hR hz hf hadd hfl
      go_enter Try.func27, Try.ntmps27
      have HWL := Lib.hid (show w.heap.size < (w.alloc (.cells #[.int .i64 x.lv, .int .i64 x.a, .int .i64 x.b, .int .i64 x.c, .int .i64 x.d] 38)).heap.size by simp)
      have HVX := Lib.hid (show v.ownBlock ≠ some w.heap.size from fun e => absurd (HOW.out.lt _ e).2 (Nat.lt_irrefl _))
      have HVB := Lib.hid (show ∀ b, b < base → v.ownBlock ≠ some b from fun b hb e => absurd (HOW.out.lt _ e).1 (Nat.not_le.2 hb))
      go_wp2_with (first
        | (at_builtin; go_loud (refine wpList_append_nodes _ rfl _ _ rfl base _ out [x] _ 1 1 rfl rfl (HOB.out.alloc _) (ns_lit1 _ _ x HWX.out (by simp)) rfl (fun e => by cases e) (by omega) (by simp at hbW ⊢; omega) ?_; intro v6 w6 ho6 hg6 hk6; have HG6 := Lib.hid (show World.grownBy ((w.alloc (.cells #[.int .i64 x.lv, .int .i64 x.a, .int .i64 x.b, .int .i64 x.c, .int .i64 x.d] 38)).alloc (.cells #[.int .i64 x.lv, .int .i64 x.a, .int .i64 x.b, .int .i64 x.c, .int .i64 x.d] 38)) w6 v.ownBlock from hg6); have HK6 := Lib.hid (show v6.ownBlock = v.ownBlock ∨ v6.ownBlock = some ((w.alloc (.cells #[.int .i64 x.lv, .int .i64 x.a, .int .i64 x.b, .int .i64 x.c, .int .i64 x.d] 38)).alloc (.cells #[.int .i64 x.lv, .int .i64 x.a, .int .i64 x.b, .int .i64 x.c, .int .i64 x.d] 38)).heap.size from hk6); have HKP := Lib.hid (add_keep HG6.out); obtain ⟨A6, c6, hv6, -, -, -⟩ := ho6.shape; rw [show (out ++ [x]).length = out.length + 1 by simp] at hv6; subst hv6; have HO6 := Lib.hid ho6; have kS6 := (HKP.out bS (box_lt HSB.out) (HVB.out bS HBS.out.2.1)).trans HSB.out; have cS6 := box_cell kS6; have fS6 := box_free kS6; have HKU := Lib.hid (add_keepS HKP.out HVB.out HDS.out HBS.out HKB.out HMB.out HXB.out HVX.out (.slice A6 (out.length + 1) c6)); obtain ⟨y1, y2, y3, y4, y5⟩ := HKU.out.2.2.1.at_; have cK6 := box_cell HKU.out.1; have hSU := box_set kS6 (.slice A6 (out.length + 1) c6); have HSU := Lib.hid hSU; have cU6 := box_cell hSU; clear ho6 hg6 hk6 kS6 hSU))
        | (at_mapUpdate; go_loud (refine wpList_store_km _ rfl _ _ _ rfl bk out x _ rfl rfl rfl (by simp) HKU.out.2.1 HWF.out HWX.out HF.out ?_; intro w7 hm7 hg7; have HM7 := Lib.hid hm7; have HG7 := Lib.hid hg7; have hK7 := (hg7.block bK (box_lt HKU.out.1) (fun e => HDS.out.2.2.1 (Option.some.inj e))).trans HKU.out.1; have cK7 := box_cell hK7; obtain ⟨z1, z2, z3, z4, z5⟩ := (HKU.out.2.2.1.stay (hg7.block w.heap.size HKU.out.2.2.1.lt (fun e => by have h1 := HBS.out.2.2.1; have h2 := Option.some.inj e; omega))).at_; have hl7 := hm7.lookK (add_goodR HG.out HGS.out) (add_wfR HWF.out HWX.out) x HWX.out; rw [HFL.out] at hl7; clear hm7 hg7 hK7)))
      rw [HR.out]
      unfold RetA
      rw [HAD.out]
      have hlo := fun k hk => (HO6.out.lt k hk).1
      have hbs := HBS.out
      have hds := HDS.out
      have hszU : ∀ b, b < base → b < (w6.setCell ⟨bS, 0, none⟩ (.slice A6 (out.length + 1) c6)).heap.size := fun b hb => by
        have h1 := HG6.out.size
        simp [World.setCell] at h1 ⊢
        omega
      refine ⟨.slice A6 (out.length + 1) c6, by simp, (HG7.out.block bS (hszU bS hbs.2.1) (fun e => hds.2.1 (Option.some.inj e))).trans HSU.out, ?_, HM7.out, ?_, ?_, ?_⟩
      · refine (HO6.out.gbr (gb_setCell _ _ _) (own_dec fun k hk e => ?_)).gbr HG7.out (own_dec fun k hk e => ?_)
        · have h1 := hlo k hk
          have h2 : bS = k := Option.some.inj e
          omega
        · have h1 := hlo k hk
          have h2 : bk = k := Option.some.inj e
          omega
      · intro k hk
        rcases HK6.out with e | e
        · exact .inl (e.symm.trans hk)
        · rw [e] at hk
          simp at hk
          exact .inr (by omega)
      · refine (((HKW.out.alloc _).gb HG6.out (fun i _ e => .inr (.inr (.inr e)))).set _ (fun _ => .inl rfl) _).gb HG7.out (fun i _ e => .inr (.inl (Option.some.inj e).symm))
      · refine (HG7.out.block bm (hszU bm hbs.2.2.2.1) (fun e => hds.2.2.2.2 (Option.some.inj e))).trans ((HKU.out.2.2.2 ?_).trans HBM.out)
        simp
        omega
    · have HF := Lib.hid hf
      have hadd : addR out x = (out, i + 1) := by unfold addR; rw [hz, if_neg (by simp), add_some hf]
      have HAD := Lib.hid hadd
      have t1 : ((i : Int) + 1 == 0) = false := beq_eq_false_iff_ne.2 (by omega)
      rw [hf] at hlk
      have k1 := box_cell hk'
      subst hW
      clear hk hs ho hm hg hx hb hd bW kW hk' hs' hm' ho' hxb hbmW hR hz hf hadd hi hie
      go_enter Try.func27, Try.ntmps27
      go_wp2_with fail
      rw [HR.out]
      unfold RetA
      rw [HAD.out]
      exact ⟨v, by simp, HSB.out, HOB.out, HMB.out, fun k hk => .inl hk, HKW.out, HBM.out⟩
  · have HZ := Lib.hid hz
    rw [hz] at hq
    have hadd : addR out x = (out, 0) := by unfold addR; rw [hz, if_pos rfl]
    have HAD := Lib.hid hadd
    subst hW
    clear hk hs ho hm hg hx hb hd bW kW hk' hs' hm' ho' hxb hbmW hR hz hadd hlk
    go_enter Try.func27, Try.ntmps27
    go_wp2_with fail
    rw [HR.out]
    unfold RetA
    rw [HAD.out]
    exact ⟨v, rfl, HSB.out, HOB.out, HMB.out, fun k hk => .inl hk, HKW.out, HBM.out⟩
end Go.Proofs.Ytbcolelgbbmjkaa
