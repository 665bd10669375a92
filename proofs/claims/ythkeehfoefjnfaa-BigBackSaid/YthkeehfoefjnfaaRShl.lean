/-
  The reference's Shl.
-/
import Derived.Test.YthkeehfoefjnfaaRSmall
import Derived.Test.YthkeehfoefjnfaaCmp
import Derived.Deep.RegionHeld
namespace Go.Proofs.Ythkeehfoefjnfaa
set_option linter.unusedVariables false
set_option linter.unusedSimpArgs false
open Go.RowKit Num

/-- append(s, x...), s the call's own, x whatever reads: what it does to memory. -/
theorem append_run {P : Program} (w : World) (t ty : TypeId)
    (base : Nat) (e : TypeId) (i : TypeInfo) (z : Value) (bytes : Nat) (ht : P.underlying t = some (.slice e)) (hi : P.info? e = some i) (hz : i.zero = some z)
    (hsize : i.size = 1) (hby : i.bytes = bytes) (hzs : z.cells.size = 1)
    (v : Value) (n : Nat) (xs : List Value) (hown : w.ownsRow base e 1 v n xs)
    (A : Option Addr) (m c : Nat) (news : List Value) (hr : Rd w A c news) (hm : m = news.length) (h1 : ∀ u ∈ news, u.oneCell' = true)
    (h63 : n + m ≤ maxLen) (hbytes : (n + m) * bytes ≤ 140737488355328) (hbase : base ≤ w.heap.size) :
    ∃ v' w', (Builtin.append_ #[t, t] ty #[v, .slice A m c]).run P w = .ok v' w' ∧ w'.ownsRow base e 1 v' (n + m) (xs ++ news) ∧ w.grownBy w' v.ownBlock ∧ (v'.ownBlock = v.ownBlock ∨ v'.ownBlock = some w.heap.size) := by
  subst hm
  cases A with
  | none =>
    have hn : news = [] := by
      cases news with
      | nil => rfl
      | cons u r => obtain ⟨b, off, he, _⟩ := hr.2.2 (by simp); cases he
    subst hn
    refine ⟨v, w, ?_, by simpa using hown, World.grownBy.refl w _, .inl rfl⟩
    rcases hown.2 with ⟨rfl, rfl⟩ | ⟨g, cap, cur, rfl, _, _, hnc, _⟩
    · simp [Builtin.append_, run_underlying ht, sizeOf, typeInfo, hi, Builtin.lenOf, Builtin.firstCells]
    · simp [Builtin.append_, run_underlying ht, sizeOf, typeInfo, hi, Builtin.lenOf, Builtin.firstCells, hnc, storeCells]
  | some ad =>
    have hcells : ∀ j u, news[j]? = some u → w.cell? (ad.add j) = some u := by
      intro j u hu
      obtain ⟨b, off, he, _, hc⟩ := hr.2.2 (by rcases List.getElem?_eq_some_iff.1 hu with ⟨hlt, _⟩; omega)
      cases he
      rw [show (⟨b, off, none⟩ : Addr).add j = ⟨b, off + j, none⟩ from by unfold Addr.add; split <;> simp_all]
      exact hc j u hu
    obtain ⟨v', w', hrun, h2, h3, _, h5⟩ := run_append_own_at (P := P) w base t ty e i z 1 bytes ht hi hz hsize hby hzs (by decide) v n xs hown ad news.length c news (by omega) hcells h1 h63 hbytes hbase
    exact ⟨v', w', hrun, h2, h3, h5⟩
/-- The same as an operation of a region. -/
theorem oper_append_rd {P : Program} {w : World} {o : Oper} {a : Act} {K : Act → World → Prop} {Q : Exit → Act → World → Prop} (s x : Operand) (t : TypeId)
    (ho : o.op = .call { callee := .builtin .append, args := #[s, x], argTypes := #[t, t] })
    (base : Nat) (e : TypeId) (i : TypeInfo) (z : Value) (bytes : Nat) (ht : P.underlying t = some (.slice e)) (hi : P.info? e = some i) (hz : i.zero = some z)
    (hsize : i.size = 1) (hby : i.bytes = bytes) (hzs : z.cells.size = 1)
    (v : Value) (n : Nat) (xs : List Value) (hs : a.eval s = v) (hown : w.ownsRow base e 1 v n xs)
    (A : Option Addr) (m c : Nat) (news : List Value) (hx : a.eval x = .slice A m c) (hr : Rd w A c news) (hm : m = news.length) (h1 : ∀ u ∈ news, u.oneCell' = true)
    (h63 : n + m ≤ maxLen) (hbytes : (n + m) * bytes ≤ 140737488355328) (hbase : base ≤ w.heap.size)
    (h : ∀ v' w', w'.ownsRow base e 1 v' (n + m) (xs ++ news) → w.grownBy w' v.ownBlock → (v'.ownBlock = v.ownBlock ∨ v'.ownBlock = some w.heap.size) → K (a.put o.dst v') w') : Oper.wp P o a w K Q := by
  obtain ⟨v', w', hrun, h2, h3, h4⟩ := append_run (P := P) w t o.type base e i z bytes ht hi hz hsize hby hzs v n xs hown A m c news hr hm h1 h63 hbytes hbase
  unfold Oper.wp execOp
  simp only [ho, resolve, invoke, builtin, Sem.run_bind, Sem.run_pure, Result.andThen_ok, List.map_toArray, List.map_cons, List.map_nil, hs, hx, hrun]
  exact h v' w' h2 h3 h4
/-- make(T, n) as an operation of a region. -/
theorem oper_make_full {P : Program} {w : World} {o : Oper} {a : Act} {K : Act → World → Prop} {Q : Exit → Act → World → Prop}
    (l c : Operand) (t : TypeId) (hop : o.op = Op.makeSlice t l c)
    (base : Nat) (e : TypeId) (i : TypeInfo) (z : Value) (size : Nat) (h1 : P.underlying t = some (.slice e)) (h2 : P.info? e = some i) (h3 : i.zero = some z) (h4 : i.size = size)
    (kl kc : IntKind) (L C : Int) (n : Nat) (hl : a.eval l = .int kl L) (hc : a.eval c = .int kc C) (hL : L = (n : Int)) (hC : C = (n : Int)) (b2 : i.bytes * n ≤ 281474976710656) (b3 : n ≤ maxLen) (b4 : base ≤ w.heap.size)
    (hK : ∀ w', w'.ownsRow base e size (.slice (some ⟨w.heap.size, 0, none⟩) n n) n (madeCells z.cells (n * size)).toList → w.grownBy w' none → K (a.put o.dst (.slice (some ⟨w.heap.size, 0, none⟩) n n)) w') :
    Oper.wp P o a w K Q := by
  obtain ⟨w', hrun, r1, r2⟩ := run_make_full (P := P) w base t e i z size h1 h2 h3 h4 kl kc n b2 b3 b4
  subst hL
  subst hC
  unfold Oper.wp
  simp [execOp, hop, hl, hc, hrun, Result.andThen]
  exact hK w' r1 r2

theorem made_false (n : Nat) : (madeCells (Value.cells (.bool false)) (n * 1)).toList = (List.replicate n false).map Value.bool := by
  rw [Nat.mul_one]
  refine List.ext_getElem (by simp [madeCells]) fun i h1 h2 => ?_
  simp [madeCells, Value.cells, Nat.mod_one]

set_option maxRecDepth 100000 in
set_option maxHeartbeats 1600000 in
theorem rshl_yes (A : Option Addr) (c : Nat) (xs : List Nat) (k : Nat) (w : World) (h : Us w A c xs) (hl : xs.length ≤ 1000000) (hk : k ≤ 10000) :
    Calls Try.prog 19 #[.slice A xs.length c, .int .i64 (k : Int)] w (RetU (val xs * 2 ^ k) w) := by
  obtain ⟨i0, hi, hz0, hz1, hz2⟩ := info_parts Try.infoB
  have HH := Lib.hid h
  have hd := h.1
  have HI := Lib.hid (And.intro hi (And.intro hz0 (And.intro hz1 hz2)))
  clear h hi hz0 hz1 hz2
  go_enter Try.func19, Try.ntmps19
  go_wp2_with fail
  refine wp_normalOnly ?_
  refine wp_region_held (S := fun _ => True) (by kernel_rfl) ?_
  refine wpAnyH_take (i := 0) (v := .int .i64 (k : Int)) rfl (by kernel_rfl) (by kernel_rfl) (by kernel_rfl) (fun _ _ _ h => h) (Or.inl ⟨by rfl, ?_⟩) trivial ?_
  · rintro w' -
    go_simp
  simp only [Act.put, List.setIfInBounds_toArray, List.set_cons_zero, List.set_cons_succ]
  refine wpAnyH_take (i := 2) (v := .slice A xs.length c) rfl (by kernel_rfl) (by kernel_rfl) (by kernel_rfl) (fun _ _ _ h => h) (Or.inl ⟨by rfl, ?_⟩) trivial ?_
  · rintro w' -
    go_simp
  simp only [Act.put, List.setIfInBounds_toArray, List.set_cons_zero, List.set_cons_succ]
  obtain ⟨w0, hw0⟩ : ∃ w0 : World, w0 = { w with drawn := w.drawn + 1 } := ⟨_, rfl⟩
  have hb0 : Below w.heap.size w w0 := by rw [hw0]; exact below_drewN (Below.refl _ w) 1
  have hs0 : w.heap.size ≤ w0.heap.size := hb0.size
  rw [← hw0]
  clear hw0
  have hu0 := HH.out.below hb0
  refine wpAnyH_ready (rs := [1, 3]) (by kernel_rfl) (by simp) (AllReadyH.cons rfl (fun K hK => ?_) (AllReadyH.cons rfl (fun K hK => ?_) AllReadyH.nil))
  rw [if_pos (by rfl)]
  refine oper_make_full (.tmp 11) (.tmp 11) 59 rfl w.heap.size 4 i0 _ 1 Try.underlying59 HI.out.1 HI.out.2.1 HI.out.2.2.1 .i64 .i64 _ _ k rfl rfl rfl rfl (by rw [HI.out.2.2.2]; omega) (by simp only [maxLen]; omega) (by omega) ?_
  intro w1 own1 grow1
  simp only [Act.put, List.setIfInBounds_toArray, List.set_cons_zero, List.set_cons_succ]
  refine hK.out _ _ trivial (fun _ => ?_)
  clear hK K
  refine wpAnyH_ready (rs := [3]) (by kernel_rfl) (by simp) (AllReadyH.cons rfl (fun K hK => ?_) AllReadyH.nil)
  go_simp
  have hb1 : Below w.heap.size w w1 := hb0.grown grow1 (by omega) (fun k hk => by cases hk)
  have hu1 := HH.out.below hb1
  refine (bits_any A c xs _ hu1 hl).mono ?_
  rintro e w2 ⟨A1, c1, bs, rfl, q2, k1, v1, b2⟩
  dsimp only
  refine hK.out _ _ trivial (fun _ => ?_)
  clear hK K
  have own2 := ownsRow_below own1 b2
  rw [made_false] at own2
  have hb2 : Below w.heap.size w w2 := hb1.trans (b2.mono hb1.size)
  have hgb : w.heap.size ≤ w0.heap.size := by omega
  clear grow1 hs0
  generalize hgg : w0.heap.size = g at own2 hgb ⊢
  clear hgg
  rotate_left
  go_simp
  refine (bits_any A c xs _ hu0 hl).mono ?_
  rintro e w1 ⟨A1, c1, bs, rfl, q1, k1, v1, b1⟩
  dsimp only
  refine hK.out _ _ trivial (fun _ => ?_)
  clear hK K
  have hb1 : Below w.heap.size w w1 := hb0.trans (b1.mono hb0.size)
  have hs1 := hb1.size
  refine wpAnyH_ready (rs := [1]) (by kernel_rfl) (by simp) (AllReadyH.cons rfl (fun K hK => ?_) AllReadyH.nil)
  rw [if_pos (by rfl)]
  refine oper_make_full (.tmp 11) (.tmp 11) 59 rfl w.heap.size 4 i0 _ 1 Try.underlying59 HI.out.1 HI.out.2.1 HI.out.2.2.1 .i64 .i64 _ _ k rfl rfl rfl rfl (by rw [HI.out.2.2.2]; omega) (by simp only [maxLen]; omega) (by omega) ?_
  intro w2 own2 grow2
  simp only [Act.put, List.setIfInBounds_toArray, List.set_cons_zero, List.set_cons_succ]
  refine hK.out _ _ trivial (fun _ => ?_)
  clear hK K
  rw [made_false] at own2
  have hb2 : Below w.heap.size w w2 := hb1.grown grow2 (by omega) (fun k hk => by cases hk)
  have q2 : Bl w2 A1 c1 bs := Bl.below q1 ((Below.refl _ w1).grown grow2 (Nat.le_refl _) (fun k hk => by cases hk))
  have hgb : w.heap.size ≤ w1.heap.size := by omega
  clear grow2 hs0
  generalize hgg : w1.heap.size = g at own2 hgb ⊢
  clear hgg
  all_goals
    have hbl := bits_len hd k1 v1
    refine wpAnyH_ready (rs := [4]) (by kernel_rfl) (by simp) (AllReadyH.cons rfl (fun K hK => ?_) AllReadyH.nil)
    rw [if_pos (by rfl)]
    refine oper_append_rd (.tmp 12) (.tmp 14) 59 rfl w.heap.size 4 i0 _ 1 Try.underlying59 HI.out.1 HI.out.2.1 HI.out.2.2.1 HI.out.2.2.2 rfl (.slice (some ⟨g, 0, none⟩) k k) k _ rfl own2 A1 bs.length c1 (bs.map Value.bool) rfl q2 (by simp) (bool_one _) (by simp only [maxLen]; omega) (by omega) hb2.size ?_
    intro v3 w3 own3 grow3 at3
    obtain ⟨A3, c3, rfl⟩ := own_shape own3
    simp only [Act.put, List.setIfInBounds_toArray, List.set_cons_zero, List.set_cons_succ]
    refine hK.out _ _ trivial (fun _ => ?_)
    clear hK K
    have hb3 : Below w.heap.size w w3 := hb2.grown grow3 hb2.size (fun k hk => by cases hk; omega)
    have q3 : Bl w3 A3 c3 (List.replicate k false ++ bs) := by
      unfold Bl
      rw [List.map_append]
      exact Rd.own own3
    have hv3 : bval (List.replicate k false ++ bs) = val xs * 2 ^ k := by
      rw [bval_append, bval_false, List.length_replicate, v1, Nat.zero_add, Nat.mul_comm]
    refine wpAnyH_ready (rs := [5]) (by kernel_rfl) (by simp) (AllReadyH.cons rfl (fun K hK => ?_) AllReadyH.nil)
    go_simp
    refine (of_of q3 (by simp) (by omega)).mono ?_
    rintro e w4 ⟨A4, c4, rs, rfl, q4, k4, v4, b4⟩
    dsimp only
    refine hK.out _ _ trivial (fun _ => ?_)
    clear hK K
    refine wpAnyH_ready (rs := [6]) (by kernel_rfl) (by simp) (AllReadyH.cons rfl (fun K hK => ?_) AllReadyH.nil)
    go_simp
    refine hK.out _ _ trivial (fun _ => ?_)
    clear hK K
    refine wpAnyH_done (by kernel_rfl) ?_ _
    unfold NormalOnly
    go_wp2_with fail
    go_ret
    exact ⟨A4, c4, rs, rfl, q4, k4, v4.trans hv3, hb3.trans (b4.mono hb3.size)⟩

theorem rshl_no (A : Option Addr) (c n : Nat) (k : Int) (w : World) (hk : k < 0 ∨ 10000 < k) :
    Calls Try.prog 19 #[.slice A n c, .int .i64 k] w (RetU 0 w) := by
  go_enter Try.func19, Try.ntmps19
  rcases hk with hk | hk
  · go_wp2
    go_ret
    exact ⟨none, 0, [], rfl, Us.nil _, canon_nil, rfl, Below.refl _ _⟩
  · go_wp2
    go_ret
    exact ⟨none, 0, [], rfl, Us.nil _, canon_nil, rfl, Below.refl _ _⟩

end Go.Proofs.Ythkeehfoefjnfaa
