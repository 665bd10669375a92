/-
  node: slices of nodes that the call has made; append.
-/
import Derived.Test.YtbcolelgbbmjkaaNdMem
import Derived.OwnWalk
import Derived.Laws.AppendOwnNone
import Derived.Maps.AppendAt

namespace Go.Proofs.Ytbcolelgbbmjkaa
set_option linter.unusedVariables false
set_option linter.unusedSimpArgs false
open Go.RowKit Nds
theorem Try.infoN : (Try.prog.info? 38).map (fun i => (i.zero, i.size, i.bytes)) = some (some (ndv nd0), 5, 40) := by kernel_rfl
def ndc (x : Nd) : List Value := [.int .i64 x.lv, .int .i64 x.a, .int .i64 x.b, .int .i64 x.c, .int .i64 x.d]
def ndcs (l : List Nd) : List Value := l.flatMap ndc
theorem ndcs_len (l : List Nd) : (ndcs l).length = l.length * 5 := by
  unfold ndcs
  induction l with
  | nil => rfl
  | cons x l ih =>
    rw [List.flatMap_cons, List.length_append, ih, List.length_cons]
    show 5 + _ = _
    omega
theorem ndcs_app (l m : List Nd) : ndcs (l ++ m) = ndcs l ++ ndcs m := by
  unfold ndcs
  rw [List.flatMap_append]
theorem ndcs_at : ∀ (l : List Nd) (i j : Nat), i < l.length → j < 5 → (ndcs l)[i * 5 + j]? = (ndc (at_ l i))[j]?
  | [], i, _, hi, _ => by simp at hi
  | x :: l, 0, j, _, hj => by
    show (ndc x ++ ndcs l)[0 * 5 + j]? = _
    rw [List.getElem?_append_left (by show _ < 5; omega), show 0 * 5 + j = j by omega]
    rfl
  | x :: l, i + 1, j, hi, hj => by
    show (ndc x ++ ndcs l)[(i + 1) * 5 + j]? = _
    rw [List.getElem?_append_right (by show 5 ≤ _; omega), show (i + 1) * 5 + j - (ndc x).length = i * 5 + j by show _ - 5 = _; omega, ndcs_at l i j (by simpa using hi) hj]
    rfl
theorem ndcs_one (l : List Nd) : ∀ u ∈ ndcs l, u.oneCell' = true := fun u hu => by
  obtain ⟨x, _, hx⟩ := List.mem_flatMap.1 hu
  simp only [ndc, List.mem_cons, List.not_mem_nil, or_false] at hx
  rcases hx with rfl | rfl | rfl | rfl | rfl <;> rfl
/-- A slice's cells, one by one. -/
theorem Ns.cells {w : World} {A : Option Addr} {c : Nat} {l : List Nd} (h : Ns w A c l) {ad : Addr} (e : A = some ad) : ∀ j u, (ndcs l)[j]? = some u → w.cell? (ad.add j) = some u := by
  intro j u hu
  have hj := (List.getElem?_eq_some_iff.1 hu).1
  rw [ndcs_len] at hj
  obtain ⟨b, off, e2, _, hc⟩ := h.at_ (by omega)
  rw [e] at e2
  cases e2
  have hd := hc (j / 5) (by omega)
  have hs : j = j / 5 * 5 + j % 5 := by omega
  rw [hs, ndcs_at l (j / 5) (j % 5) (by omega) (by omega)] at hu
  obtain ⟨h1, h2, h3, h4, h5⟩ := hd
  have hlt : j % 5 < 5 := Nat.mod_lt _ (by omega)
  have hadd : (⟨b, off, none⟩ : Addr).add j = ⟨b, off + j, none⟩ := by simp [Addr.add]
  rw [hadd]
  generalize hq : j / 5 = q at *
  generalize hr : j % 5 = r at *
  match r, hlt with
  | 0, _ => rw [show off + j = off + q * 5 by omega, h1]; exact hu
  | 1, _ => rw [show off + j = off + q * 5 + 1 by omega, h2]; exact hu
  | 2, _ => rw [show off + j = off + q * 5 + 2 by omega, h3]; exact hu
  | 3, _ => rw [show off + j = off + q * 5 + 3 by omega, h4]; exact hu
  | 4, _ => rw [show off + j = off + q * 5 + 4 by omega, h5]; exact hu
/-- Nodes of the call's own. -/
def OwnN (w : World) (base : Nat) (v : Value) (l : List Nd) : Prop := (∀ x ∈ l, x.wf) ∧ w.ownsRow base 38 5 v l.length (ndcs l)
theorem OwnN.shape {w : World} {base : Nat} {v : Value} {l : List Nd} (h : OwnN w base v l) : ∃ A c, v = .slice A l.length c ∧ Ns w A c l ∧ ((A = none → c = 0) ∧ ∀ a, A = some a → base ≤ a.block) := by
  rcases h.2.2 with ⟨h', hn⟩ | ⟨g, cap, cur, h', hb, hg, hnc, hcm, hcs, htake⟩
  · exact ⟨none, 0, by rw [h', hn], ⟨h.1, by omega, by simp [maxLen], fun h => by omega⟩, (fun _ => rfl), (fun a e => by cases e)⟩
  · refine ⟨some ⟨g, 0, none⟩, cap, h', ⟨h.1, hnc, hcm, fun hn => ⟨g, 0, rfl, ?_, fun i hi => ?_⟩⟩, (fun e => by cases e), (fun a e => by cases e; exact hb)⟩
    · rcases Nat.lt_or_ge g w.heap.size with hlt | hge
      · exact hlt
      · rw [Array.getElem?_eq_none hge] at hg; cases hg
    · have hcell : ∀ j, j < 5 → w.cell? ⟨g, i * 5 + j, none⟩ = (ndc (at_ l i))[j]? := by
        intro j hj
        have hlt : i * 5 + j < l.length * 5 := by omega
        rw [cell_of_row w g (i * 5 + j) cur _ (0, 0) hg, ← ndcs_at l i j hi hj, ← htake, List.getElem?_take, if_pos hlt]
        simp
      rw [Nat.zero_add]
      exact ⟨hcell 0 (by omega), hcell 1 (by omega), hcell 2 (by omega), hcell 3 (by omega), hcell 4 (by omega)⟩
theorem OwnN.start (w : World) : OwnN (w.alloc (.cells #[] 38)) w.heap.size (.slice (some ⟨w.heap.size, 0, none⟩) 0 0) [] :=
  ⟨by simp, World.ownsRow_made w #[] 0 (Nat.le_refl _) (by simp [maxLen]) rfl⟩
/-- append(v, s...), run. -/
theorem run_append_nodes (w : World) (base : Nat) (v : Value) (xs ys : List Nd) (ty : TypeId) (A : Option Addr) (m c : Nat) (how : OwnN w base v xs) (hN : Ns w A c ys) (hm : ys.length = m) (hA : A = none → c = 0) (hs : xs.length + m ≤ 1000000) (hb : base ≤ w.heap.size) :
    ∃ v' w', (Builtin.append_ #[22, 22] ty #[v, .slice A m c]).run Try.prog w = .ok v' w' ∧ OwnN w' base v' (xs ++ ys) ∧ w.grownBy w' v.ownBlock ∧ (v'.ownBlock = v.ownBlock ∨ v'.ownBlock = some w.heap.size) := by
  obtain ⟨i0, hi, hz0, hz1, hz2⟩ := info_parts Try.infoN
  have hwf : ∀ x ∈ xs ++ ys, x.wf := fun x hx => by
    rcases List.mem_append.1 hx with h | h
    · exact how.1 x h
    · exact hN.1 x h
  cases A with
  | none =>
    have hc := hA rfl
    have hy : ys = [] := by
      rcases Nat.eq_zero_or_pos ys.length with h | h
      · exact List.eq_nil_of_length_eq_zero h
      · obtain ⟨b, off, e, _⟩ := hN.at_ h
        cases e
    subst hy
    subst hc
    subst hm
    refine ⟨v, w, run_append_owned_none (P := Try.prog) (w := w) base _ ty 38 i0 5 Try.underlying22 hi v _ _ how.2, ?_, ⟨rfl, rfl, rfl, Nat.le_refl _, fun _ _ _ => rfl⟩, .inl rfl⟩
    rw [List.append_nil]
    exact how
  | some ad =>
    obtain ⟨v', w', hrun, h2, h3, _, h5⟩ := run_append_own_at (P := Try.prog) w base 22 ty 38 i0 (ndv nd0) 5 40 Try.underlying22 hi hz0 hz1 hz2 rfl (by omega) v xs.length (ndcs xs) how.2 ad m c (ndcs ys) (by rw [ndcs_len, hm]) (hN.cells rfl) (ndcs_one ys) (by simp only [maxLen]; omega) (by omega) hb
    refine ⟨v', w', hrun, ⟨hwf, ?_⟩, h3, h5⟩
    rw [ndcs_app, List.length_append, hm]
    exact h2
theorem wpList_append_nodes (w : World) {ops : Array Oper} {rest : List Oper} {o : Oper} {a : Act} {Q : Exit → Act → World → Prop} (hg : o.guard = none) (s x : Operand)
    (hop : o.op = Op.call { callee := Callee.builtin Builtin.append, args := #[s, x], argTypes := #[22, 22] }) (base : Nat) (v : Value) (xs ys : List Nd) (A : Option Addr) (m c : Nat)
    (hs : a.eval s = v) (hx : a.eval x = .slice A m c) (how : OwnN w base v xs) (hN : Ns w A c ys) (hm : ys.length = m) (hA : A = none → c = 0) (hsz : xs.length + m ≤ 1000000) (hb : base ≤ w.heap.size)
    (hK : ∀ v' w', OwnN w' base v' (xs ++ ys) → w.grownBy w' v.ownBlock → (v'.ownBlock = v.ownBlock ∨ v'.ownBlock = some w.heap.size) → wpList Try.prog ops Q rest (a.put o.dst v') w') :
    wpList Try.prog ops Q (o :: rest) a w := by
  refine wpList_plain hg fun K hK' => ?_
  obtain ⟨v', w', hrun, h1, h2, h3⟩ := run_append_nodes w base v xs ys o.type A m c how hN hm hA hsz hb
  unfold Oper.wp execOp
  simp only [hop, resolve, invoke, builtin, Sem.run_bind, Sem.run_pure, Result.andThen_ok, List.map_toArray, List.map_cons, List.map_nil, hs, hx, hrun]
  exact hK' _ _ (hK v' w' h1 h2 h3)
/-- The same as an operation of a region. -/
theorem oper_append_nodes {w : World} {o : Oper} {a : Act} {K : Act → World → Prop} {Q : Exit → Act → World → Prop} (s x : Operand)
    (hop : o.op = Op.call { callee := Callee.builtin Builtin.append, args := #[s, x], argTypes := #[22, 22] }) (base : Nat) (v : Value) (xs ys : List Nd) (A : Option Addr) (m c : Nat)
    (hs : a.eval s = v) (hx : a.eval x = .slice A m c) (how : OwnN w base v xs) (hN : Ns w A c ys) (hm : ys.length = m) (hA : A = none → c = 0) (hsz : xs.length + m ≤ 1000000) (hb : base ≤ w.heap.size)
    (h : ∀ v' w', OwnN w' base v' (xs ++ ys) → w.grownBy w' v.ownBlock → (v'.ownBlock = v.ownBlock ∨ v'.ownBlock = some w.heap.size) → K (a.put o.dst v') w') : Oper.wp Try.prog o a w K Q := by
  obtain ⟨v', w', hrun, h1, h2, h3⟩ := run_append_nodes w base v xs ys o.type A m c how hN hm hA hsz hb
  unfold Oper.wp execOp
  simp only [hop, resolve, invoke, builtin, Sem.run_bind, Sem.run_pure, Result.andThen_ok, List.map_toArray, List.map_cons, List.map_nil, hs, hx, hrun]
  exact h v' w' h1 h2 h3
/-- What is not the row that was written stands. -/
theorem Ns.gbr {w w' : World} {A : Option Addr} {c : Nat} {l : List Nd} {row : Option Nat} (h : Ns w A c l) (hg : w.grownBy w' row) (hA : ∀ a, A = some a → some a.block ≠ row) : Ns w' A c l :=
  ⟨h.1, h.2.1, h.2.2.1, fun hn => by
    obtain ⟨b, off, e, hlt, hc⟩ := h.2.2.2 hn
    exact ⟨b, off, e, Nat.lt_of_lt_of_le hlt hg.size, fun i hi => (hc i hi).below (hg.block b hlt (hA _ e))⟩⟩
theorem OwnN.gbr {w w' : World} {base : Nat} {v : Value} {l : List Nd} {row : Option Nat} (h : OwnN w base v l) (hg : w.grownBy w' row) (hv : v.ownBlock = none ∨ v.ownBlock ≠ row) : OwnN w' base v l := ⟨h.1, h.2.kept hg hv⟩
theorem OwnN.alloc {w : World} {base : Nat} {v : Value} {l : List Nd} (h : OwnN w base v l) (o : Obj) : OwnN (w.alloc o) base v l := ⟨h.1, h.2.alloc o⟩
theorem OwnN.lt {w : World} {base : Nat} {v : Value} {l : List Nd} (h : OwnN w base v l) : ∀ k, v.ownBlock = some k → base ≤ k ∧ k < w.heap.size := h.2.lt
/-- The rest of a slice. -/
theorem Ns.rest {w : World} {b off c : Nat} {l : List Nd} (h : Ns w (some ⟨b, off, none⟩) c l) {k : Nat} (hk : k ≤ l.length) : Ns w (some ⟨b, off + k * 5, none⟩) (c - k) (l.drop k) := by
  have hlc := h.2.1
  refine ⟨fun x hx => h.1 x (List.mem_of_mem_drop hx), by rw [List.length_drop]; omega, by have := h.2.2.1; omega, fun hn => ?_⟩
  rw [List.length_drop] at hn
  obtain ⟨b2, off2, e, hlt, hc⟩ := h.at_ (by omega)
  cases e
  refine ⟨b, off + k * 5, rfl, hlt, fun i hi => ?_⟩
  rw [List.length_drop] at hi
  have e1 : Nds.at_ (l.drop k) i = Nds.at_ l (k + i) := by
    unfold Nds.at_
    rw [List.getElem?_drop]
  rw [e1, show off + k * 5 + i * 5 = off + (k + i) * 5 by omega]
  exact hc (k + i) (by omega)
/-- Slices of nodes that stand since a call began. -/
def Sn (w W : World) (L : List (Option Addr × Nat × List Nd)) : Prop := Below w.heap.size w W ∧ ∀ t ∈ L, Ns W t.1 t.2.1 t.2.2
theorem Sn.start (w : World) : Sn w w [] := ⟨Below.refl _ _, by simp⟩
theorem Sn.get {w W : World} {L : List (Option Addr × Nat × List Nd)} (s : Sn w W L) {A : Option Addr} {c : Nat} {l : List Nd} (h : (A, c, l) ∈ L) : Ns W A c l := s.2 _ h
theorem Sn.step {w W W' : World} {L : List (Option Addr × Nat × List Nd)} (s : Sn w W L) (b : Below W.heap.size W W') : Sn w W' L :=
  ⟨s.1.trans (b.mono s.1.size), fun t ht => (s.2 t ht).below b⟩
theorem Sn.add {w W : World} {L : List (Option Addr × Nat × List Nd)} (s : Sn w W L) {A : Option Addr} {c : Nat} {l : List Nd} (h : Ns W A c l) : Sn w W ((A, c, l) :: L) :=
  ⟨s.1, fun t ht => by
    rcases List.mem_cons.1 ht with rfl | ht
    · exact h
    · exact s.2 t ht⟩
theorem Sn.alloc {w W : World} {L : List (Option Addr × Nat × List Nd)} (s : Sn w W L) (o : Obj) : Sn w (W.alloc o) L := s.step ((Below.refl _ W).alloc (Nat.le_refl _) o)
end Go.Proofs.Ytbcolelgbbmjkaa
