/-
  cells, the reference: what Last puts in, cell by cell.
-/
import Derived.Test.YtmfncapgikobkaaGreatGClRa
import Derived.Test.YtmfncapgikobkaaGreatGClSt
import Derived.ArgAppend

namespace Go.Proofs.YtmfncapgikobkaaGreat
set_option maxRecDepth 100000
set_option linter.unusedVariables false
set_option linter.unusedSimpArgs false
open Go.RowKit Nds Num
theorem ordC_lt {v u : Cv} : ordC v u < 0 ↔ ltB v.cl u.cl = true := by
 rw [ltB_iff]
 unfold ordC ltC Cv.cl
 dsimp only
 split
 ·
  rename_i h
  rw [ordI_zero] at h
  rw [ordI_neg]
  omega
 ·
  rename_i h
  rw [ordI_zero] at h
  rw [ordI_neg]
  omega
theorem ordC_eq {v u : Cv} : ordC v u = 0 ↔ (v.cl.x = u.cl.x ∧ v.cl.y = u.cl.y) := by
 unfold ordC Cv.cl
 dsimp only
 split
 ·
  rename_i h
  rw [ordI_zero] at h
  rw [ordI_zero]
  exact ⟨fun e => ⟨e, h⟩, fun e => e.1⟩
 ·
  rename_i h
  rw [ordI_zero] at h ⊢
  exact ⟨fun e => absurd e h, fun e => absurd e.2 h⟩
def insV : List Cv → Cv → List Cv
 | [], c => [c]
 | a :: l, c => if ordC a c < 0 then a :: insV l c else if ordC a c = 0 then c :: l else c :: a :: l
theorem insV_cl : ∀ (l : List Cv) (c : Cv), (insV l c).map Cv.cl = insC (l.map Cv.cl) c.cl
 | [], c => rfl
 | a :: l, c => by
  rw [List.map_cons]
  unfold insV insC
  by_cases h1 : ordC a c < 0
  ·
   rw [if_pos h1, if_pos (ordC_lt.1 h1), List.map_cons, insV_cl l c]
  ·
   rw [if_neg h1, if_neg (fun e => h1 (ordC_lt.2 e))]
   by_cases h2 : ordC a c = 0
   ·
    rw [if_pos h2, if_pos (ordC_eq.1 h2)]
    rfl
   ·
    rw [if_neg h2, if_neg (fun e => h2 (ordC_eq.2 e))]
    rfl
theorem insV_mem : ∀ {l : List Cv} {c d : Cv}, d ∈ insV l c → d = c ∨ d ∈ l
 | [], c, d, h => .inl (List.mem_singleton.1 h)
 | a :: l, c, d, h => by
  unfold insV at h
  split at h
  ·
   rcases List.mem_cons.1 h with h | h
   ·
    exact .inr (by simp [h])
   ·
    rcases insV_mem h with h | h
    ·
     exact .inl h
    ·
     exact .inr (by simp [h])
  ·
   split at h
   ·
    rcases List.mem_cons.1 h with h | h
    ·
     exact .inl h
    ·
     exact .inr (by simp [h])
   ·
    rcases List.mem_cons.1 h with h | h
    ·
     exact .inl h
    ·
     exact .inr h
theorem insV_len : ∀ (l : List Cv) (c : Cv), (insV l c).length ≤ l.length + 1
 | [], c => Nat.le_refl _
 | a :: l, c => by
  unfold insV
  split
  ·
   have := insV_len l c
   simp only [List.length_cons]
   omega
  ·
   split <;> simp
theorem insV_at : ∀ (l : List Cv) (c : Cv) (p : Nat), p ≤ l.length → (∀ j, j < p → ordC (cat l j) c < 0) → (p < l.length → ¬ ordC (cat l p) c < 0) →
  insV l c = (l.take p ++ [c]) ++ (l.drop p).drop (if p < l.length ∧ ordC (cat l p) c = 0 then 1 else 0)
 | [], c, p, h, _, _ => by
  obtain rfl : p = 0 := by simpa using h
  rfl
 | a :: l, c, 0, _, _, h3 => by
  have h4 : ¬ ordC a c < 0 := h3 (by simp)
  unfold insV
  rw [if_neg h4]
  by_cases h5 : ordC a c = 0
  ·
   rw [if_pos h5, if_pos ⟨by simp, h5⟩]
   rfl
  ·
   rw [if_neg h5, if_neg (fun e => h5 e.2)]
   rfl
 | a :: l, c, p + 1, h1, h2, h3 => by
  have h4 : ordC a c < 0 := h2 0 (by omega)
  have ih := insV_at l c p (by simpa using h1) (fun j hj => h2 (j + 1) (by omega)) (fun hp => h3 (by simpa using hp))
  unfold insV
  rw [if_pos h4, ih]
  have e : (p + 1 < (a :: l).length ∧ ordC (cat (a :: l) (p + 1)) c = 0) ↔ (p < l.length ∧ ordC (cat l p) c = 0) := by
   rw [List.length_cons, Nat.add_lt_add_iff_right]
   rfl
  simp only [e, List.take_succ_cons, List.drop_succ_cons, List.cons_append]
def insVs (l : List Cv) : List Cv := l.foldl insV []
theorem insVs_snoc (l : List Cv) (c : Cv) : insVs (l ++ [c]) = insV (insVs l) c := by
 unfold insVs
 rw [List.foldl_append]
 rfl
theorem insVs_spec (l : List Cv) : ∀ k, k ≤ l.length → (insVs (l.take k)).map Cv.cl = insAll ((l.take k).map Cv.cl) ∧ (∀ u ∈ insVs (l.take k), u ∈ l) ∧ (insVs (l.take k)).length ≤ k := by
 intro k
 induction k with
 | zero => exact fun _ => ⟨rfl, (fun u hu => by cases hu), Nat.le_refl _⟩
 | succ k ih =>
  intro hk
  obtain ⟨i1, i2, i3⟩ := ih (by omega)
  rw [List.take_succ_eq_append_getElem (by omega), insVs_snoc]
  refine ⟨?_, fun u hu => ?_, ?_⟩
  ·
   rw [insV_cl, i1, List.map_append, List.map_singleton, insAll_snoc]
  ·
   rcases insV_mem hu with rfl | hu
   ·
    exact List.getElem_mem _
   ·
    exact i2 u hu
  ·
   have := insV_len (insVs (l.take k)) l[k]
   omega
theorem insVs_next (l : List Cv) {k : Nat} (hk : k < l.length) : insVs (l.take (k + 1)) = insV (insVs (l.take k)) (cat l k) := by
 rw [List.take_succ_eq_append_getElem hk, insVs_snoc, cat_get hk]
theorem Cs.cut {w : World} {A : Option Addr} {c : Nat} {l : List Cv} (h : Cs w A c l) (k : Nat) : Cs w A c (l.take k) := by
 refine ⟨fun v hv => h.1 v (List.mem_of_mem_take hv), Nat.le_trans (by rw [List.length_take]; omega) h.2.1, h.2.2.1, fun hn => ?_⟩
 rw [List.length_take] at hn
 obtain ⟨b, off, e, hb, hc⟩ := h.2.2.2 (by omega)
 refine ⟨b, off, e, hb, fun i hi => ?_⟩
 rw [List.length_take] at hi
 have e2 : cat (l.take k) i = cat l i := by
  unfold cat
  rw [List.getElem?_take, if_pos (by omega)]
 rw [e2]
 exact hc i (by omega)
theorem Cs.rest {w : World} {b off c : Nat} {l : List Cv} (h : Cs w (some ⟨b, off, none⟩) c l) {k : Nat} (hk : k ≤ l.length) : Cs w (some ⟨b, off + k * 5, none⟩) (c - k) (l.drop k) := by
 refine ⟨fun v hv => h.1 v (List.mem_of_mem_drop hv), by have := h.2.1; rw [List.length_drop]; omega, by have := h.2.2.1; omega, fun hn => ?_⟩
 rw [List.length_drop] at hn
 obtain ⟨b', off', e, hb, hc⟩ := h.2.2.2 (by omega)
 cases e
 refine ⟨b, off + k * 5, rfl, hb, fun i hi => ?_⟩
 rw [List.length_drop] at hi
 have e2 : cat (l.drop k) i = cat l (k + i) := by
  unfold cat
  rw [List.getElem?_drop]
 rw [e2, show off + k * 5 + i * 5 = off + (k + i) * 5 by omega]
 exact hc (k + i) (by omega)
theorem run_append_cut (w : World) (y : Cv) (ty : TypeId) (A : Option Addr) (p d : Nat) (xs : List Cv) (ad : Addr) (hp : xs.length = p) (hN : Cs w A d xs) (hA : A = none → p = 0) (hy : ∀ j u, (cvcs [y])[j]? = some u → w.cell? (ad.add j) = some u) (c : Nat) (hs : p + 1 ≤ 1000000) :
  ∃ v' w', (Builtin.append_ #[22, 22] ty #[.slice A p p, .slice (some ad) 1 c]).run Tryz.prog w = .ok v' w' ∧ OwnC w' w.heap.size v' (xs ++ [y]) ∧ w.grownBy w' none := by
 obtain ⟨i0, hi, hz0, hz1, hz2⟩ := info_parts Tryz.infoC
 subst hp
 cases A with
 | none =>
  have h0 := List.eq_nil_of_length_eq_zero (hA rfl)
  subst h0
  obtain ⟨v', w', hrun, h1, h2, _⟩ := run_append_cells w w.heap.size (.slice none 0 0) [] [y] ty ad 1 c (OwnC.nil w _) hy rfl (by simp) (Nat.le_refl _)
  exact ⟨v', w', hrun, h1, h2⟩
 | some b =>
  obtain ⟨v', w', hrun, h1, h2⟩ := run_append_arg_grows (P := Tryz.prog) w 22 ty 47 i0 (cvv cv0) 5 72 Tryz.underlying22 hi hz0 hz1 hz2 rfl (by omega) b xs.length xs.length (cvcs xs) (cvcs_len xs) (hN.cells rfl) ad 1 c (cvcs [y]) (cvcs_len [y]) hy (by omega) (by simp only [maxLen]; omega) (by omega)
  refine ⟨v', w', hrun, ?_, h2⟩
  unfold OwnC
  rw [cvcs_app, List.length_append]
  exact h1
theorem oper_append_cut {w : World} {o : Oper} {a : Act} {K : Act → World → Prop} {Q : Exit → Act → World → Prop} (s x : Operand)
  (hop : o.op = Op.call { callee := Callee.builtin Builtin.append, args := #[s, x], argTypes := #[22, 22] }) (y : Cv) (A : Option Addr) (p d : Nat) (xs : List Cv) (ad : Addr) (c : Nat)
  (hs : a.eval s = .slice A p p) (hx : a.eval x = .slice (some ad) 1 c) (hp : xs.length = p) (hN : Cs w A d xs) (hA : A = none → p = 0) (hy : ∀ j u, (cvcs [y])[j]? = some u → w.cell? (ad.add j) = some u) (hsz : p + 1 ≤ 1000000)
  (h : ∀ v' w', OwnC w' w.heap.size v' (xs ++ [y]) → w.grownBy w' none → K (a.put o.dst v') w') : Oper.wp Tryz.prog o a w K Q := by
 obtain ⟨v', w', hrun, h1, h2⟩ := run_append_cut w y o.type A p d xs ad hp hN hA hy c hsz
 unfold Oper.wp execOp
 simp only [hop, resolve, invoke, builtin, Sem.run_bind, Sem.run_pure, Result.andThen_ok, List.map_toArray, List.map_cons, List.map_nil, hs, hx, hrun]
 exact h v' w' h1 h2
theorem oper_append_cs {w : World} {o : Oper} {a : Act} {K : Act → World → Prop} {Q : Exit → Act → World → Prop} (s x : Operand)
  (hop : o.op = Op.call { callee := Callee.builtin Builtin.append, args := #[s, x], argTypes := #[22, 22] }) (base : Nat) (v : Value) (xs ys : List Cv) (A : Option Addr) (m c : Nat)
  (hs : a.eval s = v) (hx : a.eval x = .slice A m c) (how : OwnC w base v xs) (hN : Cs w A c ys) (hm : ys.length = m) (hA : A = none → c = 0) (hsz : xs.length + m ≤ 1000000) (hb : base ≤ w.heap.size)
  (h : ∀ v' w', OwnC w' base v' (xs ++ ys) → w.grownBy w' v.ownBlock → (v'.ownBlock = v.ownBlock ∨ v'.ownBlock = some w.heap.size) → K (a.put o.dst v') w') : Oper.wp Tryz.prog o a w K Q := by
 obtain ⟨v', w', hrun, h1, h2, h3⟩ := run_append_cs w base v xs ys o.type A m c how hN hm hA hsz hb
 unfold Oper.wp execOp
 simp only [hop, resolve, invoke, builtin, Sem.run_bind, Sem.run_pure, Result.andThen_ok, List.map_toArray, List.map_cons, List.map_nil, hs, hx, hrun]
 exact h v' w' h1 h2 h3
theorem cs_none (w : World) (A : Option Addr) {c : Nat} (h : c ≤ maxLen) : Cs w A c [] := ⟨(fun v hv => by cases hv), Nat.zero_le _, h, fun h0 => absurd h0 (Nat.lt_irrefl 0)⟩
theorem ownC_start (w : World) {base : Nat} (h : base ≤ w.heap.size) : OwnC (w.alloc (.cells #[] 47)) base (.slice (some ⟨w.heap.size, 0, none⟩) 0 0) [] := World.ownsRow_made w #[] 0 h (by simp [maxLen]) rfl
theorem put_in {l M : List Cv} {i p : Nat} {x : Cv} (hM : M = insVs (l.take i)) (hx : x = cat l i) (hi : i < l.length) (hp : p ≤ M.length) (h1 : ∀ j, j < p → ordC (cat M j) x < 0) (h2 : p < M.length → ¬ ordC (cat M p) x < 0) :
  insVs (l.take (i + 1)) = (M.take p ++ [x]) ++ (M.drop p).drop (if p < M.length ∧ ordC (cat M p) x = 0 then 1 else 0) := by
 rw [insVs_next l hi, ← hM, ← hx]
 exact insV_at M x p hp h1 h2
theorem filter_cl : ∀ M : List Cv, (M.filter fun u => u.st != 0).map Cv.cl = (M.map Cv.cl).filter fun c => c.s != 0
 | [] => rfl
 | u :: M => by
  have e : (u.cl.s != 0) = (u.st != 0) := by
   show (((u.st : Nat) : Int) != 0) = _
   rw [Bool.eq_iff_iff]
   simp
  rw [List.map_cons, List.filter_cons, List.filter_cons, e]
  split
  ·
   rw [List.map_cons, filter_cl M]
  ·
   exact filter_cl M
theorem last_cl {l M : List Cv} {n : Nat} (hM : M = insVs (l.take n)) (hn : l.length = n) : (M.filter fun u => u.st != 0).map Cv.cl = lastF (l.map Cv.cl) := by
 subst hn
 rw [filter_cl, hM, (insVs_spec l l.length (Nat.le_refl _)).1, List.take_length]
 rfl
theorem filter_next {M : List Cv} {q : Nat} {y : Cv} (hq : q < M.length) (hy : y = cat M q) : (M.take (q + 1)).filter (fun u => u.st != 0) = (M.take q).filter (fun u => u.st != 0) ++ (if y.st = 0 then [] else [y]) := by
 rw [List.take_succ_eq_append_getElem hq, List.filter_append, ← cat_get hq, ← hy]
 congr 1
 rw [List.filter_cons, List.filter_nil]
 by_cases h : y.st = 0
 ·
  rw [if_pos h, if_neg (by rw [h]; decide)]
 ·
  rw [if_neg h, if_pos (by simpa using h)]
end Go.Proofs.YtmfncapgikobkaaGreat
