/-
  canon: what a node stands for, as a tree, plain.
-/
import Derived.Test.YtbcolelgbbmjkaaNdsE

namespace Go.Proofs.Ytbcolelgbbmjkaa.Nds
set_option linter.unusedVariables false
set_option linter.unusedSimpArgs false
/-- What a number among a node's kids stands for: nothing; a state; a node. -/
inductive Tr where
  | e : Tr
  | s (k : Int) : Tr
  | n (lv : Int) (a b c d : Tr) : Tr
def Tr.isE (t : Tr) : Bool := match t with | .e => true | _ => false
def Tr.lv (t : Tr) : Int := match t with | .n v _ _ _ _ => v | _ => 0
/-- A quarter. -/
def Tr.q (t : Tr) (i : Nat) : Tr := match t with
  | .n _ a b c d => (match i with | 0 => a | 1 => b | 2 => c | _ => d)
  | _ => .e
theorem isE_iff {t : Tr} : t.isE = true ↔ t = .e := by
  cases t <;> simp [Tr.isE]
theorem isE_no {t : Tr} : t.isE = false ↔ t ≠ .e := by
  cases t <;> simp [Tr.isE]
def allE (a b c d : Tr) : Bool := a.isE && b.isE && c.isE && d.isE
def mk (v : Int) (a b c d : Tr) : Tr := if allE a b c d = true then .e else .n v a b c d
theorem allE_iff {a b c d : Tr} : allE a b c d = true ↔ a = .e ∧ b = .e ∧ c = .e ∧ d = .e := by
  unfold allE
  simp only [Bool.and_eq_true, isE_iff, and_assoc]
theorem mk_q (v : Int) (a b c d : Tr) (i : Nat) : (mk v a b c d).q i = (Tr.n v a b c d).q i := by
  unfold mk
  split
  · rename_i h
    obtain ⟨rfl, rfl, rfl, rfl⟩ := allE_iff.1 h
    match i with
    | 0 => rfl
    | 1 => rfl
    | 2 => rfl
    | _ + 3 => rfl
  · rfl
theorem mk_isE (v : Int) (a b c d : Tr) : (mk v a b c d).isE = allE a b c d := by
  unfold mk
  cases h : allE a b c d <;> rfl
theorem mk_lv {v : Int} {a b c d : Tr} (h : mk v a b c d ≠ .e) : (mk v a b c d).lv = v := by
  unfold mk at h ⊢
  split
  · rename_i h2
    rw [if_pos h2] at h
    exact absurd rfl h
  · rfl
theorem tr_ind {P : Tr → Prop} (he : P .e) (hs : ∀ k, P (.s k)) (hn : ∀ v a b c d, (∀ i, i < 4 → P ((Tr.n v a b c d).q i)) → P (.n v a b c d)) : ∀ t, P t
  | .e => he
  | .s k => hs k
  | .n v a b c d => hn v a b c d fun i hi => match i, hi with
    | 0, _ => tr_ind he hs hn a
    | 1, _ => tr_ind he hs hn b
    | 2, _ => tr_ind he hs hn c
    | 3, _ => tr_ind he hs hn d
def st (k : Int) : Tr := if k = 0 then .e else .s k
def kidT (ts : List Tr) (v k : Int) : Tr := if v = 1 then st k else ts.getD k.toNat .e
def norm (ts : List Tr) (x : Nd) : Tr := mk x.lv (kidT ts x.lv x.a) (kidT ts x.lv x.b) (kidT ts x.lv x.c) (kidT ts x.lv x.d)
theorem norm_q (ts : List Tr) (x : Nd) {i : Nat} (hi : i < 4) : (norm ts x).q i = kidT ts x.lv (x.kid i) := by
  unfold norm
  rw [mk_q]
  match i, hi with
  | 0, _ => rfl
  | 1, _ => rfl
  | 2, _ => rfl
  | 3, _ => rfl
theorem norm_lv {ts : List Tr} {x : Nd} (h : norm ts x ≠ .e) : (norm ts x).lv = x.lv := mk_lv h
theorem norm_isE (ts : List Tr) (x : Nd) : (norm ts x).isE = x.each fun k => (kidT ts x.lv k).isE := by
  unfold norm
  rw [mk_isE]
  rfl
theorem norm_isE_iff (ts : List Tr) (x : Nd) : norm ts x = .e ↔ ∀ i, i < 4 → kidT ts x.lv (x.kid i) = .e := by
  rw [← isE_iff, norm_isE, each_iff]
  exact ⟨fun h i hi => isE_iff.1 (h i hi), fun h i hi => isE_iff.2 (h i hi)⟩
theorem norm_congr {ts us : List Tr} {x y : Nd} (hv : x.lv = y.lv) (h : ∀ i, i < 4 → kidT ts x.lv (x.kid i) = kidT us y.lv (y.kid i)) : norm ts x = norm us y := by
  have h0 := h 0 (by omega)
  have h1 := h 1 (by omega)
  have h2 := h 2 (by omega)
  have h3 := h 3 (by omega)
  unfold norm
  show mk _ (kidT ts x.lv (x.kid 0)) (kidT ts x.lv (x.kid 1)) (kidT ts x.lv (x.kid 2)) (kidT ts x.lv (x.kid 3)) = mk _ (kidT us y.lv (y.kid 0)) (kidT us y.lv (y.kid 1)) (kidT us y.lv (y.kid 2)) (kidT us y.lv (y.kid 3))
  rw [h0, h1, h2, h3, hv]
theorem norm_form (ts : List Tr) (x : Nd) : norm ts x = .e ∨ ∃ a b c d, norm ts x = .n x.lv a b c d := by
  unfold norm mk
  split
  · exact .inl rfl
  · exact .inr ⟨_, _, _, _, rfl⟩
/-- What the nodes of a list stand for (from 0 on, which is nothing). -/
def dens (l : List Nd) : List Tr := l.foldl (fun ts x => ts ++ [norm ts x]) [.e]
def den (l : List Nd) (n : Nat) : Tr := (dens l).getD n .e
theorem dens_snoc (l : List Nd) (x : Nd) : dens (l ++ [x]) = dens l ++ [norm (dens l) x] := by
  unfold dens
  rw [List.foldl_append]
  rfl
theorem dens_len (l : List Nd) : (dens l).length = l.length + 1 := by
  suffices h : ∀ k, k ≤ l.length → (dens (l.take k)).length = k + 1 by
    have := h l.length (Nat.le_refl _)
    rwa [List.take_of_length_le (Nat.le_refl _)] at this
  intro k
  induction k with
  | zero => intro _; rfl
  | succ k ih =>
    intro hk
    rw [take_at (by omega), dens_snoc, List.length_append, ih (by omega)]
    rfl
theorem dens_take (l : List Nd) : ∀ k, k ≤ l.length → dens (l.take k) = (dens l).take (k + 1) := by
  suffices h : ∀ d k, k + d = l.length → dens (l.take k) = (dens l).take (k + 1) from fun k hk => h (l.length - k) k (by omega)
  intro d
  induction d with
  | zero =>
    intro k hk
    rw [List.take_of_length_le (by omega), List.take_of_length_le (by rw [dens_len]; omega)]
  | succ d ih =>
    intro k hk
    have h := ih (k + 1) (by omega)
    rw [take_at (by omega), dens_snoc] at h
    have hl : (dens (l.take k)).length = k + 1 := by rw [dens_len, List.length_take]; omega
    have := congrArg (List.take (k + 1)) h
    rw [List.take_append_of_le_length (by omega), List.take_of_length_le (by omega), List.take_take] at this
    rw [this]
    congr 1
    omega
theorem den_take {l : List Nd} {k n : Nat} (hk : k ≤ l.length) (hn : n ≤ k) : den (l.take k) n = den l n := by
  unfold den
  rw [dens_take l k hk, List.getD_eq_getElem?_getD, List.getD_eq_getElem?_getD, List.getElem?_take, if_pos (by omega)]
theorem den_app {l m : List Nd} {n : Nat} (hn : n ≤ l.length) : den (l ++ m) n = den l n := by
  have h := den_take (l := l ++ m) (k := l.length) (n := n) (by simp) hn
  rw [List.take_left] at h
  exact h.symm
theorem den_pre {l m : List Nd} {n : Nat} (h : l <+: m) (hn : n ≤ l.length) : den m n = den l n := by
  obtain ⟨r, rfl⟩ := h
  exact den_app hn
theorem den_zero (l : List Nd) : den l 0 = .e := by
  have h := den_take (l := l) (k := 0) (n := 0) (by omega) (by omega)
  rw [← h]
  rfl
theorem den_last (l : List Nd) (x : Nd) : den (l ++ [x]) (l.length + 1) = norm (dens l) x := by
  unfold den
  rw [dens_snoc, List.getD_eq_getElem?_getD, List.getElem?_append_right (by rw [dens_len]; omega), dens_len, Nat.sub_self]
  rfl
theorem den_at {l : List Nd} {i : Nat} (hi : i < l.length) : den l (i + 1) = norm (dens (l.take i)) (at_ l i) := by
  have h := den_take (l := l) (k := i + 1) (n := i + 1) (by omega) (Nat.le_refl _)
  rw [← h, take_at hi]
  have hl : (l.take i).length = i := by rw [List.length_take]; omega
  have := den_last (l.take i) (at_ l i)
  rwa [hl] at this
theorem kidT_up {ts : List Tr} {v k : Int} (h : v ≠ 1) : kidT ts v k = ts.getD k.toNat .e := by
  unfold kidT
  rw [if_neg h]
theorem kidT_den {l : List Nd} {v k : Int} (h : v ≠ 1) : kidT (dens l) v k = den l k.toNat := kidT_up h
theorem kidT_one {ts : List Tr} {k : Int} : kidT ts 1 k = st k := rfl
theorem kidT_pre {l m : List Nd} (h : l <+: m) {v k : Int} (hk : kidB l v k = true) : kidT (dens m) v k = kidT (dens l) v k := by
  by_cases hv : v = 1
  · subst hv
    rfl
  · rw [kidT_den hv, kidT_den hv]
    rcases kid_up hv hk with rfl | ⟨p, rfl, hp, _⟩
    · rw [show (0 : Int).toNat = 0 from rfl, den_zero, den_zero]
    · rw [show ((p : Int) + 1).toNat = p + 1 by omega]
      exact den_pre h (by omega)
theorem norm_pre {l m : List Nd} (h : l <+: m) {x : Nd} (hx : fitB l x = true) : norm (dens m) x = norm (dens l) x :=
  norm_congr rfl fun i hi => kidT_pre h (fit_kid hx hi)
theorem den_loose {l : List Nd} (h : looseB l = true) {i : Nat} (hi : i < l.length) : den l (i + 1) = norm (dens l) (at_ l i) := by
  rw [den_at hi]
  exact (norm_pre (List.take_prefix i l) (loose_iff.1 h i hi)).symm
theorem den_form (l : List Nd) (n : Nat) : den l n = .e ∨ ∃ v a b c d, den l n = .n v a b c d := by
  by_cases h0 : n = 0
  · subst h0
    exact .inl (den_zero l)
  · by_cases hn : n ≤ l.length
    · obtain ⟨i, rfl⟩ : ∃ i, n = i + 1 := ⟨n - 1, by omega⟩
      rw [den_at (by omega)]
      rcases norm_form (dens (l.take i)) (at_ l i) with h | ⟨a, b, c, d, h⟩
      · exact .inl h
      · exact .inr ⟨_, _, _, _, _, h⟩
    · refine .inl ?_
      unfold den
      rw [List.getD_eq_getElem?_getD, List.getElem?_eq_none (by rw [dens_len]; omega)]
      rfl
/-- A tree of a level. -/
def wfT : Int → Tr → Prop
  | _, .e => True
  | v, .s k => v = 0 ∧ 1 ≤ k ∧ k ≤ 255
  | v, .n u a b c d => v = u ∧ 1 ≤ u ∧ u ≤ 1329 ∧ wfT (u - 1) a ∧ wfT (u - 1) b ∧ wfT (u - 1) c ∧ wfT (u - 1) d ∧ allE a b c d = false
theorem wf_q {v : Int} {t : Tr} (h : wfT v t) (i : Nat) : wfT (v - 1) (t.q i) := by
  cases t with
  | e => exact trivial
  | s k => exact trivial
  | n u a b c d =>
    obtain ⟨rfl, _, _, h0, h1, h2, h3, _⟩ := h
    match i with
    | 0 => exact h0
    | 1 => exact h1
    | 2 => exact h2
    | _ + 3 => exact h3
theorem wf_lv {v : Int} {t : Tr} (h : wfT v t) (hn : t.lv ≠ 0) : t.lv = v ∧ 1 ≤ v ∧ v ≤ 1329 := by
  cases t with
  | e => exact absurd rfl hn
  | s k => exact absurd rfl hn
  | n u a b c d =>
    obtain ⟨rfl, h1, h2, _⟩ := h
    exact ⟨rfl, h1, h2⟩
theorem wf_mk {v : Int} {a b c d : Tr} (hv : 1 ≤ v ∧ v ≤ 1329) (h0 : wfT (v - 1) a) (h1 : wfT (v - 1) b) (h2 : wfT (v - 1) c) (h3 : wfT (v - 1) d) : wfT v (mk v a b c d) := by
  unfold mk
  split
  · exact trivial
  · rename_i h
    exact ⟨rfl, hv.1, hv.2, h0, h1, h2, h3, by simpa using h⟩
theorem wf_st {k : Int} (h : 0 ≤ k ∧ k ≤ 255) : wfT 0 (st k) := by
  unfold st
  split
  · exact trivial
  · exact ⟨rfl, by omega, h.2⟩
theorem wf_den {l : List Nd} (h : looseB l = true) : ∀ i, i < l.length → wfT (at_ l i).lv (den l (i + 1)) := by
  intro i
  induction i using Nat.strongRecOn with
  | _ i ih =>
    intro hi
    have hf := loose_iff.1 h i hi
    have hv := fit_lv hf
    rw [den_loose h hi]
    have key : ∀ j, j < 4 → wfT ((at_ l i).lv - 1) (kidT (dens l) (at_ l i).lv ((at_ l i).kid j)) := by
      intro j hj
      have hk := fit_kid hf hj
      by_cases h1 : (at_ l i).lv = 1
      · rw [h1] at hk ⊢
        rw [kidT_one]
        unfold kidB at hk
        rw [if_pos rfl, decide_eq_true_iff] at hk
        exact wf_st hk
      · rw [kidT_den h1]
        rcases kid_up h1 hk with e | ⟨p, e, hp, hl⟩
        · rw [e, show (0 : Int).toNat = 0 from rfl, den_zero]
          exact trivial
        · have hpi : p < i := Nat.lt_of_lt_of_le hp (List.length_take_le _ _)
          rw [e, show ((p : Int) + 1).toNat = p + 1 by omega, ← hl, at_take hpi]
          exact ih p hpi (by omega)
    exact wf_mk hv (key 0 (by omega)) (key 1 (by omega)) (key 2 (by omega)) (key 3 (by omega))
/-- Half as wide, around the same middle, would do. -/
def holT (t : Tr) : Bool := decide (1 < t.lv) && (List.range 4).all fun i => (List.range 4).all fun j => j + i == 3 || ((t.q i).q j).isE
def innT (t : Tr) : Tr := mk (t.lv - 1) ((t.q 0).q 3) ((t.q 1).q 2) ((t.q 2).q 1) ((t.q 3).q 0)
theorem hol_iff {t : Tr} : holT t = true ↔ 1 < t.lv ∧ ∀ i, i < 4 → ∀ j, j < 4 → j + i ≠ 3 → (t.q i).q j = .e := by
  unfold holT
  rw [Bool.and_eq_true, decide_eq_true_iff, List.all_eq_true]
  refine and_congr_right fun _ => ⟨fun h i hi j hj hne => ?_, fun h i hi => List.all_eq_true.2 fun j hj => ?_⟩
  · have := List.all_eq_true.1 (h i (List.mem_range.2 hi)) j (List.mem_range.2 hj)
    rw [Bool.or_eq_true, beq_iff_eq] at this
    exact isE_iff.1 (this.resolve_left hne)
  · rw [Bool.or_eq_true, beq_iff_eq]
    by_cases hne : j + i = 3
    · exact .inl hne
    · exact .inr (isE_iff.2 (h i (List.mem_range.1 hi) j (List.mem_range.1 hj) hne))
theorem inn_lv (t : Tr) : innT t = .e ∨ (innT t).lv = t.lv - 1 := by
  unfold innT mk
  split
  · exact .inl rfl
  · exact .inr rfl
theorem wf_inn {v : Int} {t : Tr} (h : wfT v t) (hh : holT t = true) : wfT (v - 1) (innT t) := by
  have h1 := (hol_iff.1 hh).1
  obtain ⟨e, h2, h3⟩ := wf_lv h (by omega)
  unfold innT
  rw [e]
  exact wf_mk (by omega) (wf_q (wf_q h 0) 3) (wf_q (wf_q h 1) 2) (wf_q (wf_q h 2) 1) (wf_q (wf_q h 3) 0)
theorem wf_all {v u : Int} {a b c d : Tr} (h : wfT v (.n u a b c d)) : ∃ i, i < 4 ∧ (Tr.n u a b c d).q i ≠ .e := by
  obtain ⟨rfl, _, _, _, _, _, _, h4⟩ := h
  refine Classical.byContradiction fun hn => ?_
  have key : ∀ i, i < 4 → (Tr.n v a b c d).q i = .e := fun i hi => Classical.byContradiction fun h => hn ⟨i, hi, h⟩
  have h5 : allE a b c d = true := allE_iff.2 ⟨key 0 (by omega), key 1 (by omega), key 2 (by omega), key 3 (by omega)⟩
  rw [h5] at h4
  cases h4
theorem inn_ne {v : Int} {t : Tr} (h : wfT v t) (hh : holT t = true) : innT t ≠ .e := by
  intro he
  obtain ⟨h1, h2⟩ := hol_iff.1 hh
  cases t with
  | e => exact absurd h1 (by simp [Tr.lv])
  | s k => exact absurd h1 (by simp [Tr.lv])
  | n u a b c d =>
    have hu : 1 < u := h1
    obtain ⟨i, hi, hne⟩ := wf_all h
    have hw := wf_q h i
    have hq := h2 i hi
    unfold innT at he
    have hall := allE_iff.1 (show allE _ _ _ _ = true from (mk_isE _ _ _ _ _).symm.trans (isE_iff.2 he))
    have hi3 : ((Tr.n u a b c d).q i).q (3 - i) = .e := by
      match i, hi with
      | 0, _ => exact hall.1
      | 1, _ => exact hall.2.1
      | 2, _ => exact hall.2.2.1
      | 3, _ => exact hall.2.2.2
    obtain ⟨rfl, _⟩ := h
    cases ht : (Tr.n v a b c d).q i with
    | e => exact hne ht
    | s k =>
      rw [ht] at hw
      have := hw.1
      omega
    | n u2 a2 b2 c2 d2 =>
      rw [ht] at hw hq hi3
      obtain ⟨j, hj, hj2⟩ := wf_all hw
      by_cases hji : j + i = 3
      · rw [show 3 - i = j by omega] at hi3
        exact hj2 hi3
      · exact hj2 (hq j hj hji)
def shrF : Nat → Tr → Tr
  | 0, t => t
  | m + 1, t => if holT t = true then shrF m (innT t) else t
/-- Until it isn't hollow. -/
def shrT (t : Tr) : Tr := shrF t.lv.toNat t
theorem shrF_done {t : Tr} (h : holT t = false) (m : Nat) : shrF m t = t := by
  cases m with
  | zero => rfl
  | succ m =>
    unfold shrF
    rw [if_neg (by rw [h]; simp)]
theorem shr_done {t : Tr} (h : holT t = false) : shrT t = t := shrF_done h _
theorem hol_e : holT .e = false := rfl
theorem shr_step {t : Tr} (h : holT t = true) : shrT t = shrT (innT t) := by
  have h1 := (hol_iff.1 h).1
  obtain ⟨m, hm⟩ : ∃ m, t.lv.toNat = m + 1 := ⟨t.lv.toNat - 1, by omega⟩
  unfold shrT
  rw [hm]
  show (if holT t = true then shrF m (innT t) else t) = _
  rw [if_pos h]
  rcases inn_lv t with e | e
  · rw [e, shrF_done hol_e, shrF_done hol_e]
  · rw [e, show (t.lv - 1).toNat = m by omega]
theorem shr_all {P : Tr → Prop} {v : Int} {t : Tr} (hw : wfT v t) (hP : ∀ (v : Int) (t : Tr), wfT v t → holT t = false → P t) : P (shrT t) := by
  suffices h : ∀ (m : Nat) (v : Int) (t : Tr), t.lv.toNat ≤ m → wfT v t → P (shrT t) from h _ v t (Nat.le_refl _) hw
  intro m
  induction m with
  | zero =>
    intro v t hm hw
    have : holT t = false := by
      cases hq : holT t
      · rfl
      · have := (hol_iff.1 hq).1
        omega
    rw [shr_done this]
    exact hP v t hw this
  | succ m ih =>
    intro v t hm hw
    cases hq : holT t with
    | false =>
      rw [shr_done hq]
      exact hP v t hw hq
    | true =>
      rw [shr_step hq]
      have h1 := (hol_iff.1 hq).1
      refine ih (v - 1) _ ?_ (wf_inn hw hq)
      rcases inn_lv t with e | e
      · rw [e]
        exact Nat.zero_le _
      · rw [e]
        omega
theorem shr_stop {v : Int} {t : Tr} (hw : wfT v t) : holT (shrT t) = false := shr_all hw fun _ _ _ h => h
theorem shr_wf {v : Int} {t : Tr} (hw : wfT v t) : ∃ u, wfT u (shrT t) := shr_all (P := fun t => ∃ u, wfT u t) hw fun v _ h _ => ⟨v, h⟩
theorem shr_e : shrT .e = .e := shr_done hol_e
end Go.Proofs.Ytbcolelgbbmjkaa.Nds
