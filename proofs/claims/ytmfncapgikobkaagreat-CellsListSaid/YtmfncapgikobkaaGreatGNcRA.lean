/-
  canon: what a node stands for, as a tree, plain.
  canon: the one list of a tree, plain.
  canon: quads, plain: what may be, what is just one, what stands behind another list.
  canon: half as wide; empty quarters struck out; plain.
  canon: memory: what a call may turn; a node that is filled kid by kid; a row of numbers of the call's own.
  canon: the reference's Inner, find, Same.
-/
import Derived.Test.YtmfncapgikobkaaGreatGNdRight
import Derived.Test.YtmfncapgikobkaaGreatGNdsQ

namespace Go.Proofs.YtmfncapgikobkaaGreat.Nds
set_option maxRecDepth 100000
set_option linter.unusedVariables false
set_option linter.unusedSimpArgs false
inductive Tr where
 | e : Tr
 | s (k : Int) : Tr
 | n (lv : Int) (a b c d : Tr) : Tr
def Tr.isE (t : Tr) : Bool := match t with | .e => true | _ => false
def Tr.lv (t : Tr) : Int := match t with | .n v _ _ _ _ => v | _ => 0
def Tr.q (t : Tr) (i : Nat) : Tr := match t with
 | .n _ a b c d => (match i with | 0 => a | 1 => b | 2 => c | _ => d)
 | _ => .e
theorem isE_iff {t : Tr} : t.isE = true ↔ t = .e := by
 cases t <;> simp [Tr.isE]
theorem isE_no {t : Tr} : t.isE = false ↔ t ≠ .e := by
 cases t <;> simp [Tr.isE]
def allE (a b c d : Tr) : Bool := a.isE && b.isE && c.isE && d.isE
def mk (v : Int) (a b c d : Tr) : Tr := if allE a b c d = true then .e else .n v a b c d
theorem allE_iff {a b c d : Tr} : allE a b c d = true ↔ a = .e ∧ b = .e ∧ c = .e ∧ d = .e := by
 unfold allE
 simp only [Bool.and_eq_true, isE_iff, and_assoc]
theorem mk_q (v : Int) (a b c d : Tr) (i : Nat) : (mk v a b c d).q i = (Tr.n v a b c d).q i := by
 unfold mk
 split
 ·
  rename_i h
  obtain ⟨rfl, rfl, rfl, rfl⟩ := allE_iff.1 h
  match i with
  | 0 => rfl
  | 1 => rfl
  | 2 => rfl
  | _ + 3 => rfl
 ·
  rfl
theorem mk_isE (v : Int) (a b c d : Tr) : (mk v a b c d).isE = allE a b c d := by
 unfold mk
 cases h : allE a b c d <;> rfl
theorem mk_lv {v : Int} {a b c d : Tr} (h : mk v a b c d ≠ .e) : (mk v a b c d).lv = v := by
 unfold mk at h ⊢
 split
 ·
  rename_i h2
  rw [if_pos h2] at h
  exact absurd rfl h
 ·
  rfl
theorem mk_eta {v : Int} {a b c d : Tr} (h : mk v a b c d ≠ .e) : mk v a b c d = .n v a b c d := by
 unfold mk at h ⊢
 split
 ·
  rename_i h2
  rw [if_pos h2] at h
  exact absurd rfl h
 ·
  rfl
theorem tr_ind {P : Tr → Prop} (he : P .e) (hs : ∀ k, P (.s k)) (hn : ∀ v a b c d, (∀ i, i < 4 → P ((Tr.n v a b c d).q i)) → P (.n v a b c d)) : ∀ t, P t
 | .e => he
 | .s k => hs k
 | .n v a b c d => hn v a b c d fun i hi => match i, hi with
  | 0, _ => tr_ind he hs hn a
  | 1, _ => tr_ind he hs hn b
  | 2, _ => tr_ind he hs hn c
  | 3, _ => tr_ind he hs hn d
def st (k : Int) : Tr := if k = 0 then .e else .s k
def kidT (ts : List Tr) (v k : Int) : Tr := if v = 1 then st k else ts.getD k.toNat .e
def norm (ts : List Tr) (x : Nd) : Tr := mk x.lv (kidT ts x.lv x.a) (kidT ts x.lv x.b) (kidT ts x.lv x.c) (kidT ts x.lv x.d)
theorem norm_q (ts : List Tr) (x : Nd) {i : Nat} (hi : i < 4) : (norm ts x).q i = kidT ts x.lv (x.kid i) := by
 unfold norm
 rw [mk_q]
 match i, hi with
 | 0, _ => rfl
 | 1, _ => rfl
 | 2, _ => rfl
 | 3, _ => rfl
theorem norm_lv {ts : List Tr} {x : Nd} (h : norm ts x ≠ .e) : (norm ts x).lv = x.lv := mk_lv h
theorem norm_isE (ts : List Tr) (x : Nd) : (norm ts x).isE = x.each fun k => (kidT ts x.lv k).isE := by
 unfold norm
 rw [mk_isE]
 rfl
theorem norm_isE_iff (ts : List Tr) (x : Nd) : norm ts x = .e ↔ ∀ i, i < 4 → kidT ts x.lv (x.kid i) = .e := by
 rw [← isE_iff, norm_isE, each_iff]
 exact ⟨fun h i hi => isE_iff.1 (h i hi), fun h i hi => isE_iff.2 (h i hi)⟩
theorem norm_congr {ts us : List Tr} {x y : Nd} (hv : x.lv = y.lv) (h : ∀ i, i < 4 → kidT ts x.lv (x.kid i) = kidT us y.lv (y.kid i)) : norm ts x = norm us y := by
 have h0 := h 0 (by omega)
 have h1 := h 1 (by omega)
 have h2 := h 2 (by omega)
 have h3 := h 3 (by omega)
 unfold norm
 show mk _ (kidT ts x.lv (x.kid 0)) (kidT ts x.lv (x.kid 1)) (kidT ts x.lv (x.kid 2)) (kidT ts x.lv (x.kid 3)) = mk _ (kidT us y.lv (y.kid 0)) (kidT us y.lv (y.kid 1)) (kidT us y.lv (y.kid 2)) (kidT us y.lv (y.kid 3))
 rw [h0, h1, h2, h3, hv]
theorem norm_form (ts : List Tr) (x : Nd) : norm ts x = .e ∨ ∃ a b c d, norm ts x = .n x.lv a b c d := by
 unfold norm mk
 split
 ·
  exact .inl rfl
 ·
  exact .inr ⟨_, _, _, _, rfl⟩
def dens (l : List Nd) : List Tr := l.foldl (fun ts x => ts ++ [norm ts x]) [.e]
def den (l : List Nd) (n : Nat) : Tr := (dens l).getD n .e
theorem dens_snoc (l : List Nd) (x : Nd) : dens (l ++ [x]) = dens l ++ [norm (dens l) x] := by
 unfold dens
 rw [List.foldl_append]
 rfl
theorem dens_len (l : List Nd) : (dens l).length = l.length + 1 := by
 suffices h : ∀ k, k ≤ l.length → (dens (l.take k)).length = k + 1 by
  have := h l.length (Nat.le_refl _)
  rwa [List.take_of_length_le (Nat.le_refl _)] at this
 intro k
 induction k with
 | zero => intro _; rfl
 | succ k ih =>
  intro hk
  rw [take_at (by omega), dens_snoc, List.length_append, ih (by omega)]
  rfl
theorem dens_take (l : List Nd) : ∀ k, k ≤ l.length → dens (l.take k) = (dens l).take (k + 1) := by
 suffices h : ∀ d k, k + d = l.length → dens (l.take k) = (dens l).take (k + 1) from fun k hk => h (l.length - k) k (by omega)
 intro d
 induction d with
 | zero =>
  intro k hk
  rw [List.take_of_length_le (by omega), List.take_of_length_le (by rw [dens_len]; omega)]
 | succ d ih =>
  intro k hk
  have h := ih (k + 1) (by omega)
  rw [take_at (by omega), dens_snoc] at h
  have hl : (dens (l.take k)).length = k + 1 := by rw [dens_len, List.length_take]; omega
  have := congrArg (List.take (k + 1)) h
  rw [List.take_append_of_le_length (by omega), List.take_of_length_le (by omega), List.take_take] at this
  rw [this]
  congr 1
  omega
theorem den_take {l : List Nd} {k n : Nat} (hk : k ≤ l.length) (hn : n ≤ k) : den (l.take k) n = den l n := by
 unfold den
 rw [dens_take l k hk, List.getD_eq_getElem?_getD, List.getD_eq_getElem?_getD, List.getElem?_take, if_pos (by omega)]
theorem den_app {l m : List Nd} {n : Nat} (hn : n ≤ l.length) : den (l ++ m) n = den l n := by
 have h := den_take (l := l ++ m) (k := l.length) (n := n) (by simp) hn
 rw [List.take_left] at h
 exact h.symm
theorem den_pre {l m : List Nd} {n : Nat} (h : l <+: m) (hn : n ≤ l.length) : den m n = den l n := by
 obtain ⟨r, rfl⟩ := h
 exact den_app hn
theorem den_zero (l : List Nd) : den l 0 = .e := by
 have h := den_take (l := l) (k := 0) (n := 0) (by omega) (by omega)
 rw [← h]
 rfl
theorem den_last (l : List Nd) (x : Nd) : den (l ++ [x]) (l.length + 1) = norm (dens l) x := by
 unfold den
 rw [dens_snoc, List.getD_eq_getElem?_getD, List.getElem?_append_right (by rw [dens_len]; omega), dens_len, Nat.sub_self]
 rfl
theorem den_at {l : List Nd} {i : Nat} (hi : i < l.length) : den l (i + 1) = norm (dens (l.take i)) (at_ l i) := by
 have h := den_take (l := l) (k := i + 1) (n := i + 1) (by omega) (Nat.le_refl _)
 rw [← h, take_at hi]
 have hl : (l.take i).length = i := by rw [List.length_take]; omega
 have := den_last (l.take i) (at_ l i)
 rwa [hl] at this
theorem kidT_up {ts : List Tr} {v k : Int} (h : v ≠ 1) : kidT ts v k = ts.getD k.toNat .e := by
 unfold kidT
 rw [if_neg h]
theorem kidT_den {l : List Nd} {v k : Int} (h : v ≠ 1) : kidT (dens l) v k = den l k.toNat := kidT_up h
theorem kidT_one {ts : List Tr} {k : Int} : kidT ts 1 k = st k := rfl
theorem kidT_pre {l m : List Nd} (h : l <+: m) {v k : Int} (hk : kidB l v k = true) : kidT (dens m) v k = kidT (dens l) v k := by
 by_cases hv : v = 1
 ·
  subst hv
  rfl
 ·
  rw [kidT_den hv, kidT_den hv]
  rcases kid_up hv hk with rfl | ⟨p, rfl, hp, _⟩
  ·
   rw [show (0 : Int).toNat = 0 from rfl, den_zero, den_zero]
  ·
   rw [show ((p : Int) + 1).toNat = p + 1 by omega]
   exact den_pre h (by omega)
theorem norm_pre {l m : List Nd} (h : l <+: m) {x : Nd} (hx : fitB l x = true) : norm (dens m) x = norm (dens l) x :=
 norm_congr rfl fun i hi => kidT_pre h (fit_kid hx hi)
theorem den_loose {l : List Nd} (h : looseB l = true) {i : Nat} (hi : i < l.length) : den l (i + 1) = norm (dens l) (at_ l i) := by
 rw [den_at hi]
 exact (norm_pre (List.take_prefix i l) (loose_iff.1 h i hi)).symm
theorem den_form (l : List Nd) (n : Nat) : den l n = .e ∨ ∃ v a b c d, den l n = .n v a b c d := by
 by_cases h0 : n = 0
 ·
  subst h0
  exact .inl (den_zero l)
 ·
  by_cases hn : n ≤ l.length
  ·
   obtain ⟨i, rfl⟩ : ∃ i, n = i + 1 := ⟨n - 1, by omega⟩
   rw [den_at (by omega)]
   rcases norm_form (dens (l.take i)) (at_ l i) with h | ⟨a, b, c, d, h⟩
   ·
    exact .inl h
   ·
    exact .inr ⟨_, _, _, _, _, h⟩
  ·
   refine .inl ?_
   unfold den
   rw [List.getD_eq_getElem?_getD, List.getElem?_eq_none (by rw [dens_len]; omega)]
   rfl
def wfT : Int → Tr → Prop
 | _, .e => True
 | v, .s k => v = 0 ∧ 1 ≤ k ∧ k ≤ 255
 | v, .n u a b c d => v = u ∧ 1 ≤ u ∧ u ≤ 1329 ∧ wfT (u - 1) a ∧ wfT (u - 1) b ∧ wfT (u - 1) c ∧ wfT (u - 1) d ∧ allE a b c d = false
theorem wf_q {v : Int} {t : Tr} (h : wfT v t) (i : Nat) : wfT (v - 1) (t.q i) := by
 cases t with
 | e => exact trivial
 | s k => exact trivial
 | n u a b c d =>
  obtain ⟨rfl, _, _, h0, h1, h2, h3, _⟩ := h
  match i with
  | 0 => exact h0
  | 1 => exact h1
  | 2 => exact h2
  | _ + 3 => exact h3
theorem wf_lv {v : Int} {t : Tr} (h : wfT v t) (hn : t.lv ≠ 0) : t.lv = v ∧ 1 ≤ v ∧ v ≤ 1329 := by
 cases t with
 | e => exact absurd rfl hn
 | s k => exact absurd rfl hn
 | n u a b c d =>
  obtain ⟨rfl, h1, h2, _⟩ := h
  exact ⟨rfl, h1, h2⟩
theorem wf_mk {v : Int} {a b c d : Tr} (hv : 1 ≤ v ∧ v ≤ 1329) (h0 : wfT (v - 1) a) (h1 : wfT (v - 1) b) (h2 : wfT (v - 1) c) (h3 : wfT (v - 1) d) : wfT v (mk v a b c d) := by
 unfold mk
 split
 ·
  exact trivial
 ·
  rename_i h
  exact ⟨rfl, hv.1, hv.2, h0, h1, h2, h3, by simpa using h⟩
theorem wf_st {k : Int} (h : 0 ≤ k ∧ k ≤ 255) : wfT 0 (st k) := by
 unfold st
 split
 ·
  exact trivial
 ·
  exact ⟨rfl, by omega, h.2⟩
theorem wf_den {l : List Nd} (h : looseB l = true) : ∀ i, i < l.length → wfT (at_ l i).lv (den l (i + 1)) := by
 intro i
 induction i using Nat.strongRecOn with
 | _ i ih =>
  intro hi
  have hf := loose_iff.1 h i hi
  have hv := fit_lv hf
  rw [den_loose h hi]
  have key : ∀ j, j < 4 → wfT ((at_ l i).lv - 1) (kidT (dens l) (at_ l i).lv ((at_ l i).kid j)) := by
   intro j hj
   have hk := fit_kid hf hj
   by_cases h1 : (at_ l i).lv = 1
   ·
    rw [h1] at hk ⊢
    rw [kidT_one]
    unfold kidB at hk
    rw [if_pos rfl, decide_eq_true_iff] at hk
    exact wf_st hk
   ·
    rw [kidT_den h1]
    rcases kid_up h1 hk with e | ⟨p, e, hp, hl⟩
    ·
     rw [e, show (0 : Int).toNat = 0 from rfl, den_zero]
     exact trivial
    ·
     have hpi : p < i := Nat.lt_of_lt_of_le hp (List.length_take_le _ _)
     rw [e, show ((p : Int) + 1).toNat = p + 1 by omega, ← hl, at_take hpi]
     exact ih p hpi (by omega)
  exact wf_mk hv (key 0 (by omega)) (key 1 (by omega)) (key 2 (by omega)) (key 3 (by omega))
def holT (t : Tr) : Bool := decide (1 < t.lv) && (List.range 4).all fun i => (List.range 4).all fun j => j + i == 3 || ((t.q i).q j).isE
def innT (t : Tr) : Tr := mk (t.lv - 1) ((t.q 0).q 3) ((t.q 1).q 2) ((t.q 2).q 1) ((t.q 3).q 0)
theorem hol_iff {t : Tr} : holT t = true ↔ 1 < t.lv ∧ ∀ i, i < 4 → ∀ j, j < 4 → j + i ≠ 3 → (t.q i).q j = .e := by
 unfold holT
 rw [Bool.and_eq_true, decide_eq_true_iff, List.all_eq_true]
 refine and_congr_right fun _ => ⟨fun h i hi j hj hne => ?_, fun h i hi => List.all_eq_true.2 fun j hj => ?_⟩
 ·
  have := List.all_eq_true.1 (h i (List.mem_range.2 hi)) j (List.mem_range.2 hj)
  rw [Bool.or_eq_true, beq_iff_eq] at this
  exact isE_iff.1 (this.resolve_left hne)
 ·
  rw [Bool.or_eq_true, beq_iff_eq]
  by_cases hne : j + i = 3
  ·
   exact .inl hne
  ·
   exact .inr (isE_iff.2 (h i (List.mem_range.1 hi) j (List.mem_range.1 hj) hne))
theorem inn_lv (t : Tr) : innT t = .e ∨ (innT t).lv = t.lv - 1 := by
 unfold innT mk
 split
 ·
  exact .inl rfl
 ·
  exact .inr rfl
theorem wf_inn {v : Int} {t : Tr} (h : wfT v t) (hh : holT t = true) : wfT (v - 1) (innT t) := by
 have h1 := (hol_iff.1 hh).1
 obtain ⟨e, h2, h3⟩ := wf_lv h (by omega)
 unfold innT
 rw [e]
 exact wf_mk (by omega) (wf_q (wf_q h 0) 3) (wf_q (wf_q h 1) 2) (wf_q (wf_q h 2) 1) (wf_q (wf_q h 3) 0)
theorem wf_all {v u : Int} {a b c d : Tr} (h : wfT v (.n u a b c d)) : ∃ i, i < 4 ∧ (Tr.n u a b c d).q i ≠ .e := by
 obtain ⟨rfl, _, _, _, _, _, _, h4⟩ := h
 refine Classical.byContradiction fun hn => ?_
 have key : ∀ i, i < 4 → (Tr.n v a b c d).q i = .e := fun i hi => Classical.byContradiction fun h => hn ⟨i, hi, h⟩
 have h5 : allE a b c d = true := allE_iff.2 ⟨key 0 (by omega), key 1 (by omega), key 2 (by omega), key 3 (by omega)⟩
 rw [h5] at h4
 cases h4
theorem inn_ne {v : Int} {t : Tr} (h : wfT v t) (hh : holT t = true) : innT t ≠ .e := by
 intro he
 obtain ⟨h1, h2⟩ := hol_iff.1 hh
 cases t with
 | e => exact absurd h1 (by simp [Tr.lv])
 | s k => exact absurd h1 (by simp [Tr.lv])
 | n u a b c d =>
  have hu : 1 < u := h1
  obtain ⟨i, hi, hne⟩ := wf_all h
  have hw := wf_q h i
  have hq := h2 i hi
  unfold innT at he
  have hall := allE_iff.1 (show allE _ _ _ _ = true from (mk_isE _ _ _ _ _).symm.trans (isE_iff.2 he))
  have hi3 : ((Tr.n u a b c d).q i).q (3 - i) = .e := by
   match i, hi with
   | 0, _ => exact hall.1
   | 1, _ => exact hall.2.1
   | 2, _ => exact hall.2.2.1
   | 3, _ => exact hall.2.2.2
  obtain ⟨rfl, _⟩ := h
  cases ht : (Tr.n v a b c d).q i with
  | e => exact hne ht
  | s k =>
   rw [ht] at hw
   have := hw.1
   omega
  | n u2 a2 b2 c2 d2 =>
   rw [ht] at hw hq hi3
   obtain ⟨j, hj, hj2⟩ := wf_all hw
   by_cases hji : j + i = 3
   ·
    rw [show 3 - i = j by omega] at hi3
    exact hj2 hi3
   ·
    exact hj2 (hq j hj hji)
def shrF : Nat → Tr → Tr
 | 0, t => t
 | m + 1, t => if holT t = true then shrF m (innT t) else t
def shrT (t : Tr) : Tr := shrF t.lv.toNat t
theorem shrF_done {t : Tr} (h : holT t = false) (m : Nat) : shrF m t = t := by
 cases m with
 | zero => rfl
 | succ m =>
  unfold shrF
  rw [if_neg (by rw [h]; simp)]
theorem shr_done {t : Tr} (h : holT t = false) : shrT t = t := shrF_done h _
theorem hol_e : holT .e = false := rfl
theorem shr_step {t : Tr} (h : holT t = true) : shrT t = shrT (innT t) := by
 have h1 := (hol_iff.1 h).1
 obtain ⟨m, hm⟩ : ∃ m, t.lv.toNat = m + 1 := ⟨t.lv.toNat - 1, by omega⟩
 unfold shrT
 rw [hm]
 show (if holT t = true then shrF m (innT t) else t) = _
 rw [if_pos h]
 rcases inn_lv t with e | e
 ·
  rw [e, shrF_done hol_e, shrF_done hol_e]
 ·
  rw [e, show (t.lv - 1).toNat = m by omega]
theorem shr_all {P : Tr → Prop} {v : Int} {t : Tr} (hw : wfT v t) (hP : ∀ (v : Int) (t : Tr), wfT v t → holT t = false → P t) : P (shrT t) := by
 suffices h : ∀ (m : Nat) (v : Int) (t : Tr), t.lv.toNat ≤ m → wfT v t → P (shrT t) from h _ v t (Nat.le_refl _) hw
 intro m
 induction m with
 | zero =>
  intro v t hm hw
  have : holT t = false := by
   cases hq : holT t
   ·
    rfl
   ·
    have := (hol_iff.1 hq).1
    omega
  rw [shr_done this]
  exact hP v t hw this
 | succ m ih =>
  intro v t hm hw
  cases hq : holT t with
  | false =>
   rw [shr_done hq]
   exact hP v t hw hq
  | true =>
   rw [shr_step hq]
   have h1 := (hol_iff.1 hq).1
   refine ih (v - 1) _ ?_ (wf_inn hw hq)
   rcases inn_lv t with e | e
   ·
    rw [e]
    exact Nat.zero_le _
   ·
    rw [e]
    omega
theorem shr_stop {v : Int} {t : Tr} (hw : wfT v t) : holT (shrT t) = false := shr_all hw fun _ _ _ h => h
theorem shr_wf {v : Int} {t : Tr} (hw : wfT v t) : ∃ u, wfT u (shrT t) := shr_all (P := fun t => ∃ u, wfT u t) hw fun v _ h _ => ⟨v, h⟩
theorem shr_e : shrT .e = .e := shr_done hol_e
end Go.Proofs.YtmfncapgikobkaaGreat.Nds

namespace Go.Proofs.YtmfncapgikobkaaGreat.Nds
set_option maxRecDepth 100000
set_option linter.unusedVariables false
set_option linter.unusedSimpArgs false
def fndTo (out : List Nd) (x : Nd) : Nat → Nat
 | 0 => 0
 | k + 1 => if fndTo out x k = 0 then (if at_ out k = x then k + 1 else 0) else fndTo out x k
def fnd (out : List Nd) (x : Nd) : Nat := fndTo out x out.length
theorem fndTo_none {out : List Nd} {x : Nd} : ∀ k, (∀ j, j < k → at_ out j ≠ x) → fndTo out x k = 0
 | 0, _ => rfl
 | k + 1, h => by
  unfold fndTo
  rw [if_pos (fndTo_none k fun j hj => h j (by omega)), if_neg (h k (by omega))]
theorem fndTo_some {out : List Nd} {x : Nd} {i : Nat} (he : at_ out i = x) (hn : ∀ j, j < i → at_ out j ≠ x) : ∀ k, i < k → fndTo out x k = i + 1
 | 0, h => by omega
 | k + 1, h => by
  unfold fndTo
  by_cases hk : i < k
  ·
   rw [fndTo_some he hn k hk, if_neg (by omega)]
  ·
   have e : i = k := by omega
   subst e
   rw [if_pos (fndTo_none i hn), if_pos he]
theorem fnd_none {out : List Nd} {x : Nd} (h : ∀ j, j < out.length → at_ out j ≠ x) : fnd out x = 0 := fndTo_none _ h
theorem fnd_some {out : List Nd} {x : Nd} {i : Nat} (hi : i < out.length) (he : at_ out i = x) (hn : ∀ j, j < i → at_ out j ≠ x) : fnd out x = i + 1 := fndTo_some he hn _ hi
theorem fnd_cases (out : List Nd) (x : Nd) : (fnd out x = 0 ∧ ∀ j, j < out.length → at_ out j ≠ x) ∨ ∃ i, i < out.length ∧ at_ out i = x ∧ fnd out x = i + 1 := by
 suffices h : ∀ k, k ≤ out.length → (∀ j, j < k → at_ out j ≠ x) ∨ ∃ i, i < k ∧ at_ out i = x ∧ ∀ j, j < i → at_ out j ≠ x by
  rcases h out.length (Nat.le_refl _) with h | ⟨i, hi, he, hn⟩
  ·
   exact .inl ⟨fnd_none h, h⟩
  ·
   exact .inr ⟨i, hi, he, fnd_some hi he hn⟩
 intro k
 induction k with
 | zero => exact fun _ => .inl fun j hj => by omega
 | succ k ih =>
  intro hk
  rcases ih (by omega) with h | ⟨i, hi, h⟩
  ·
   by_cases he : at_ out k = x
   ·
    exact .inr ⟨k, by omega, he, h⟩
   ·
    refine .inl fun j hj => ?_
    rcases Nat.lt_or_ge j k with h1 | h1
    ·
     exact h j h1
    ·
     rw [show j = k by omega]; exact he
  ·
   exact .inr ⟨i, by omega, h⟩
def add (out : List Nd) (x : Nd) : List Nd × Nat := if fnd out x = 0 then (out ++ [x], out.length + 1) else (out, fnd out x)
def enc : Tr → List Nd → List Nd × Int
 | .e, out => (out, 0)
 | .s k, out => (out, k)
 | .n v a b c d, out =>
  let r0 := enc a out
  let r1 := enc b r0.1
  let r2 := enc c r1.1
  let r3 := enc d r2.1
  let r := add r3.1 ⟨v, r0.2, r1.2, r2.2, r3.2⟩
  (r.1, (r.2 : Int))
def outK (f : Nat → Tr) (out : List Nd) : Nat → List Nd
 | 0 => out
 | k + 1 => (enc (f k) (outK f out k)).1
def numK (f : Nat → Tr) (out : List Nd) (k : Nat) : Int := (enc (f k) (outK f out k)).2
def topN (f : Nat → Tr) (out : List Nd) (v : Int) : Nd := ⟨v, numK f out 0, numK f out 1, numK f out 2, numK f out 3⟩
theorem enc_n (v : Int) (a b c d : Tr) (out : List Nd) : enc (.n v a b c d) out = ((add (outK (Tr.n v a b c d).q out 4) (topN (Tr.n v a b c d).q out v)).1, ((add (outK (Tr.n v a b c d).q out 4) (topN (Tr.n v a b c d).q out v)).2 : Int)) := rfl
theorem topN_kid (f : Nat → Tr) (out : List Nd) (v : Int) {i : Nat} (hi : i < 4) : (topN f out v).kid i = numK f out i := by
 match i, hi with
 | 0, _ => rfl
 | 1, _ => rfl
 | 2, _ => rfl
 | 3, _ => rfl
def GoodL (out : List Nd) : Prop := looseB out = true ∧ ∀ i, i < out.length → den out (i + 1) ≠ .e ∧ ∀ j, j < i → at_ out j ≠ at_ out i
theorem good_nil : GoodL [] := ⟨rfl, fun i hi => absurd hi (Nat.not_lt_zero i)⟩
def NumT (out : List Nd) (t : Tr) (k : Int) : Prop := match t with
 | .e => k = 0
 | .s m => k = m
 | .n .. => 1 ≤ k ∧ k ≤ out.length ∧ den out k.toNat = t
theorem num_pre {out m : List Nd} (h : out <+: m) {t : Tr} {k : Int} (hn : NumT out t k) : NumT m t k := by
 cases t with
 | e => exact hn
 | s _ => exact hn
 | n v a b c d =>
  obtain ⟨h1, h2, h3⟩ := hn
  have := h.length_le
  exact ⟨h1, by omega, by rw [den_pre h (by omega)]; exact h3⟩
theorem num_kid {out : List Nd} (hg : GoodL out) {v k : Int} (hk : kidB out v k = true) : NumT out (kidT (dens out) v k) k := by
 by_cases hv : v = 1
 ·
  subst hv
  rw [kidT_one]
  unfold st
  split
  ·
   assumption
  ·
   rfl
 ·
  rw [kidT_den hv]
  rcases kid_up hv hk with rfl | ⟨p, rfl, hp, _⟩
  ·
   rw [show (0 : Int).toNat = 0 from rfl, den_zero]
   rfl
  ·
   rw [show ((p : Int) + 1).toNat = p + 1 by omega]
   rcases den_form out (p + 1) with h | ⟨v, a, b, c, d, h⟩
   ·
    exact absurd h (hg.2 p hp).1
   ·
    rw [h]
    exact ⟨by omega, by omega, by rw [show ((p : Int) + 1).toNat = p + 1 by omega]; exact h⟩
theorem good_fnd {out : List Nd} (hg : GoodL out) {i : Nat} (hi : i < out.length) : fnd out (at_ out i) = i + 1 := fnd_some hi rfl (hg.2 i hi).2
theorem enc_memo {out : List Nd} (hg : GoodL out) : ∀ (t : Tr) (k : Int), NumT out t k → enc t out = (out, k) := by
 refine tr_ind ?_ ?_ ?_
 ·
  intro k h
  cases h
  rfl
 ·
  intro m k h
  cases h
  rfl
 ·
  intro v a b c d ih k h
  obtain ⟨h1, h2, h3⟩ := h
  obtain ⟨p, rfl⟩ : ∃ p : Nat, k = (p : Int) + 1 := ⟨k.toNat - 1, by omega⟩
  have hp : p < out.length := by omega
  rw [show ((p : Int) + 1).toNat = p + 1 by omega, den_loose hg.1 hp] at h3
  have hf := loose_fit hg.1 hp
  have hv : (at_ out p).lv = v := by
   have := norm_lv (ts := dens out) (x := at_ out p) (by rw [h3]; simp)
   rw [h3] at this
   exact this.symm
  have hq : ∀ i, i < 4 → NumT out ((Tr.n v a b c d).q i) ((at_ out p).kid i) := by
   intro i hi
   rw [← h3, norm_q _ _ hi]
   exact num_kid hg (fit_kid hf hi)
  have hk : ∀ i, i ≤ 4 → outK (Tr.n v a b c d).q out i = out := by
   intro i
   induction i with
   | zero => exact fun _ => rfl
   | succ i ih2 =>
    intro hi
    show (enc _ (outK _ out i)).1 = out
    rw [ih2 (by omega), ih i (by omega) _ (hq i (by omega))]
  have hn : ∀ i, i < 4 → numK (Tr.n v a b c d).q out i = (at_ out p).kid i := by
   intro i hi
   unfold numK
   rw [hk i (by omega), ih i hi _ (hq i hi)]
  have ht : topN (Tr.n v a b c d).q out v = at_ out p := by
   unfold topN
   rw [hn 0 (by omega), hn 1 (by omega), hn 2 (by omega), hn 3 (by omega), ← hv]
   rfl
  rw [enc_n, hk 4 (by omega), ht]
  unfold add
  rw [good_fnd hg hp, if_neg (by omega)]
  simp
theorem loose_snoc {l : List Nd} {x : Nd} (h : looseB l = true) (hx : fitB l x = true) : looseB (l ++ [x]) = true := by
 rw [loose_iff] at h ⊢
 intro i hi
 simp only [List.length_append, List.length_cons, List.length_nil] at hi
 rcases Nat.lt_or_ge i l.length with h1 | h1
 ·
  have e1 : at_ (l ++ [x]) i = at_ l i := by
   unfold at_
   rw [List.getElem?_append_left h1]
  rw [e1, List.take_append_of_le_length (by omega)]
  exact h i h1
 ·
  have e : i = l.length := by omega
  subst e
  have e1 : at_ (l ++ [x]) l.length = x := by
   unfold at_
   rw [List.getElem?_append_right (Nat.le_refl _), Nat.sub_self]
   rfl
  rw [e1, List.take_left]
  exact hx
theorem at_app {l m : List Nd} {i : Nat} (h : i < l.length) : at_ (l ++ m) i = at_ l i := by
 unfold at_
 rw [List.getElem?_append_left h]
theorem at_last (l : List Nd) (x : Nd) : at_ (l ++ [x]) l.length = x := by
 unfold at_
 rw [List.getElem?_append_right (Nat.le_refl _), Nat.sub_self]
 rfl
theorem at_pre {l m : List Nd} (hp : l <+: m) {i : Nat} (h : i < l.length) : at_ m i = at_ l i := by
 obtain ⟨r, rfl⟩ := hp
 exact at_app h
theorem kid_num {out : List Nd} (hl : looseB out = true) {v : Int} (hv : 1 ≤ v) {t : Tr} {k : Int} (hw : wfT (v - 1) t) (hn : NumT out t k) : kidB out v k = true ∧ kidT (dens out) v k = t := by
 cases t with
 | e =>
  have hk : k = 0 := hn
  subst hk
  refine ⟨?_, ?_⟩
  ·
   unfold kidB
   split
   ·
    exact decide_eq_true (by omega)
   ·
    exact decide_eq_true (.inl rfl)
  ·
   unfold kidT
   split
   ·
    rfl
   ·
    exact den_zero out
 | s m =>
  have hk : k = m := hn
  subst hk
  obtain ⟨h1, h2, h3⟩ := hw
  have e : v = 1 := by omega
  subst e
  refine ⟨?_, ?_⟩
  ·
   unfold kidB
   rw [if_pos rfl]
   exact decide_eq_true (by omega)
  ·
   rw [kidT_one]
   unfold st
   rw [if_neg (by omega)]
 | n u a b c d =>
  obtain ⟨h1, h2, h3⟩ := hn
  obtain ⟨p, rfl⟩ : ∃ p : Nat, k = (p : Int) + 1 := ⟨k.toNat - 1, by omega⟩
  rw [show ((p : Int) + 1).toNat = p + 1 by omega] at h3
  obtain ⟨hu, hu1, _⟩ := hw
  have hne : v ≠ 1 := by omega
  have hlv : (at_ out p).lv = v - 1 := by
   rw [den_loose hl (by omega)] at h3
   have := norm_lv (ts := dens out) (x := at_ out p) (by rw [h3]; simp)
   rw [h3] at this
   rw [← this]
   exact hu.symm
  refine ⟨?_, ?_⟩
  ·
   unfold kidB
   rw [if_neg hne]
   exact decide_eq_true (.inr ⟨by omega, by omega, by rw [show ((p : Int) + 1).toNat - 1 = p by omega]; exact hlv⟩)
  ·
   rw [kidT_den hne, show ((p : Int) + 1).toNat = p + 1 by omega]
   exact h3
structure EncT (v : Int) (t : Tr) (out : List Nd) (r : List Nd × Int) : Prop where
 good : GoodL r.1
 pre : out <+: r.1
 num : NumT r.1 t r.2
 lvs : ∀ i, out.length ≤ i → i < r.1.length → (at_ r.1 i).lv ≤ v
structure EncK (v : Int) (f : Nat → Tr) (out : List Nd) (k : Nat) : Prop where
 good : GoodL (outK f out k)
 pre : out <+: outK f out k
 num : ∀ i, i < k → NumT (outK f out k) (f i) (numK f out i)
 lvs : ∀ i, out.length ≤ i → i < (outK f out k).length → (at_ (outK f out k) i).lv ≤ v
theorem encK_of {v : Int} {f : Nat → Tr} {out : List Nd} (hg : GoodL out) (h : ∀ i, i < 4 → ∀ o, GoodL o → EncT v (f i) o (enc (f i) o)) : ∀ k, k ≤ 4 → EncK v f out k := by
 intro k
 induction k with
 | zero => exact fun _ => ⟨hg, List.prefix_refl _, fun i hi => absurd hi (Nat.not_lt_zero i), fun i h1 h2 => absurd h2 (Nat.not_lt.2 h1)⟩
 | succ k ih =>
  intro hk
  have i1 := ih (by omega)
  have i2 := h k (by omega) _ i1.good
  refine ⟨i2.good, i1.pre.trans i2.pre, fun i hi => ?_, fun i h1 h2 => ?_⟩
  ·
   rcases Nat.lt_or_ge i k with h1 | h1
   ·
    exact num_pre i2.pre (i1.num i h1)
   ·
    have e : i = k := by omega
    subst e
    exact i2.num
  ·
   rcases Nat.lt_or_ge i (outK f out k).length with h3 | h3
   ·
    rw [show at_ (outK f out (k + 1)) i = at_ (outK f out k) i from at_pre i2.pre h3]
    exact i1.lvs i h1 h3
   ·
    exact i2.lvs i h3 h2
theorem top_of {v : Int} {a b c d : Tr} {out : List Nd} (hw : wfT v (.n v a b c d)) (h : EncK (v - 1) (Tr.n v a b c d).q out 4) :
  fitB (outK (Tr.n v a b c d).q out 4) (topN (Tr.n v a b c d).q out v) = true ∧ norm (dens (outK (Tr.n v a b c d).q out 4)) (topN (Tr.n v a b c d).q out v) = .n v a b c d := by
 have hv : 1 ≤ v ∧ v ≤ 1329 := ⟨hw.2.1, hw.2.2.1⟩
 have key : ∀ i, i < 4 → kidB (outK (Tr.n v a b c d).q out 4) v (numK (Tr.n v a b c d).q out i) = true ∧ kidT (dens (outK (Tr.n v a b c d).q out 4)) v (numK (Tr.n v a b c d).q out i) = (Tr.n v a b c d).q i :=
  fun i hi => kid_num h.good.1 hv.1 (wf_q hw i) (h.num i hi)
 refine ⟨?_, ?_⟩
 ·
  unfold fitB
  rw [Bool.and_eq_true, each_iff]
  exact ⟨decide_eq_true hv, fun i hi => by rw [topN_kid _ _ _ hi]; exact (key i hi).1⟩
 ·
  show mk v (kidT _ v (numK _ out 0)) (kidT _ v (numK _ out 1)) (kidT _ v (numK _ out 2)) (kidT _ v (numK _ out 3)) = _
  rw [(key 0 (by omega)).2, (key 1 (by omega)).2, (key 2 (by omega)).2, (key 3 (by omega)).2]
  have hall : allE a b c d = false := hw.2.2.2.2.2.2.2
  unfold mk
  show (if allE a b c d = true then Tr.e else Tr.n v a b c d) = _
  rw [if_neg (by rw [hall]; simp)]
theorem good_snoc {out : List Nd} {x : Nd} (hg : GoodL out) (hx : fitB out x = true) (hn : norm (dens out) x ≠ .e) (hf : ∀ j, j < out.length → at_ out j ≠ x) : GoodL (out ++ [x]) := by
 refine ⟨loose_snoc hg.1 hx, fun i hi => ?_⟩
 simp only [List.length_append, List.length_cons, List.length_nil] at hi
 rcases Nat.lt_or_ge i out.length with h1 | h1
 ·
  rw [den_app (by omega), at_app h1]
  exact ⟨(hg.2 i h1).1, fun j hj => by rw [at_app (by omega)]; exact (hg.2 i h1).2 j hj⟩
 ·
  have e : i = out.length := by omega
  subst e
  rw [den_last, at_last]
  exact ⟨hn, fun j hj => by rw [at_app hj]; exact hf j hj⟩
theorem enc_spec : ∀ (t : Tr) (v : Int) (out : List Nd), wfT v t → GoodL out → EncT v t out (enc t out) := by
 refine tr_ind ?_ ?_ ?_
 ·
  exact fun v out _ hg => ⟨hg, List.prefix_refl _, rfl, fun i h1 h2 => absurd h2 (Nat.not_lt.2 h1)⟩
 ·
  exact fun k v out _ hg => ⟨hg, List.prefix_refl _, rfl, fun i h1 h2 => absurd h2 (Nat.not_lt.2 h1)⟩
 ·
  intro u a b c d ih v out hw hg
  have hu : v = u := hw.1
  subst hu
  have hk := encK_of (v := v - 1) (f := (Tr.n v a b c d).q) hg (fun i hi o ho => ih i hi (v - 1) o (wf_q hw i) ho) 4 (Nat.le_refl _)
  obtain ⟨hfit, hnorm⟩ := top_of hw hk
  rw [enc_n]
  obtain ⟨o4, ho4⟩ : ∃ o4, o4 = outK (Tr.n v a b c d).q out 4 := ⟨_, rfl⟩
  obtain ⟨x, hx⟩ : ∃ x, x = topN (Tr.n v a b c d).q out v := ⟨_, rfl⟩
  have hxv : x.lv = v := by rw [hx]; rfl
  obtain ⟨kg, kp, _, kl⟩ := hk
  rw [← ho4] at kg kp kl hfit hnorm ⊢
  rw [← hx] at hfit hnorm ⊢
  have hne : norm (dens o4) x ≠ .e := by rw [hnorm]; simp
  unfold add
  rcases fnd_cases o4 x with ⟨e, hf⟩ | ⟨i, hi, he, e⟩
  ·
   rw [e, if_pos rfl]
   refine ⟨good_snoc kg hfit hne hf, kp.trans (List.prefix_append _ _), ?_, fun i h1 h2 => ?_⟩
   ·
    refine ⟨by simp; omega, by simp, ?_⟩
    show den (o4 ++ [x]) ((o4.length + 1 : Nat) : Int).toNat = _
    rw [Int.toNat_natCast, den_last, hnorm]
   ·
    simp only [List.length_append, List.length_cons, List.length_nil] at h2
    show (at_ (o4 ++ [x]) i).lv ≤ v
    rcases Nat.lt_or_ge i o4.length with h3 | h3
    ·
     rw [at_app h3]
     have := kl i h1 h3
     omega
    ·
     rw [show i = o4.length by omega, at_last, hxv]
     exact Int.le_refl _
  ·
   rw [e, if_neg (by omega)]
   refine ⟨kg, kp, ?_, fun i h1 h2 => Int.le_trans (kl i h1 h2) (by omega)⟩
   refine ⟨by simp; omega, by simp; omega, ?_⟩
   show den o4 ((i + 1 : Nat) : Int).toNat = _
   rw [Int.toNat_natCast, den_loose kg.1 hi, he, hnorm]
theorem end_enc {L : List Nd} : ∀ (t : Tr) (v : Int) (out : List Nd) (m : Nat), wfT v t → GoodL out → (enc t out).1 <+: L → v ≤ m → t ≠ .e → (∀ k, t ≠ .s k) →
  endL L m (enc t out).2.toNat (upto out.length) = upto (enc t out).1.length := by
 refine tr_ind ?_ ?_ ?_
 ·
  exact fun v out m _ _ _ _ h _ => absurd rfl h
 ·
  exact fun k v out m _ _ _ _ _ h => absurd rfl (h k)
 ·
  intro u a b c d ih v out m hw hg hpre hm _ _
  have hu : v = u := hw.1
  subst hu
  have hspec := enc_spec (.n v a b c d) v out hw hg
  obtain ⟨n1, n2, n3⟩ := hspec.num
  by_cases hk : (enc (.n v a b c d) out).2 ≤ out.length
  ·
   have hnum : NumT out (.n v a b c d) (enc (.n v a b c d) out).2 := ⟨n1, hk, by rw [← den_pre hspec.pre (by omega)]; exact n3⟩
   have hmem := enc_memo hg _ _ hnum
   have e1 : (enc (.n v a b c d) out).1 = out := by rw [hmem]
   rw [e1, endL_in (mem_upto.2 ⟨by omega, by omega⟩)]
  ·
   have hkk := encK_of (v := v - 1) (f := (Tr.n v a b c d).q) hg (fun i hi o ho => enc_spec _ (v - 1) o (wf_q hw i) ho)
   have h4 := hkk 4 (Nat.le_refl _)
   have hv1 : 1 ≤ v := hw.2.1
   rw [enc_n] at hk hpre ⊢
   obtain ⟨o4, ho4⟩ : ∃ o4, o4 = outK (Tr.n v a b c d).q out 4 := ⟨_, rfl⟩
   obtain ⟨x, hx⟩ : ∃ x, x = topN (Tr.n v a b c d).q out v := ⟨_, rfl⟩
   have hxv : x.lv = v := by rw [hx]; rfl
   rw [← ho4, ← hx] at hk hpre ⊢
   have hadd : add o4 x = (o4 ++ [x], o4.length + 1) := by
    rcases fnd_cases o4 x with ⟨e, hf⟩ | ⟨i, hi, he, e⟩
    ·
     unfold add
     rw [if_pos e]
    ·
     exfalso
     unfold add at hk
     rw [if_neg (by omega), e] at hk
     simp only at hk
     have := h4.lvs i (by omega) (by rw [← ho4]; exact hi)
     rw [← ho4, he, hxv] at this
     omega
   rw [hadd] at hk hpre ⊢
   simp only at hk hpre ⊢
   rw [Int.toNat_natCast]
   obtain ⟨m, rfl⟩ : ∃ m', m = m' + 1 := ⟨m - 1, by omega⟩
   have hnot : o4.length + 1 ∉ upto out.length := fun h => by
    have := (mem_upto.1 h).2
    omega
   have hatx : at_ L (o4.length + 1 - 1) = x := by
    rw [show o4.length + 1 - 1 = o4.length by omega, at_pre hpre (by simp), at_last]
   unfold endL
   rw [if_neg hnot, hatx, hxv]
   have hlen : (o4 ++ [x]).length = o4.length + 1 := by simp
   rw [hlen, ← upto_snoc]
   congr 1
   have hpre4 : o4 <+: L := (List.prefix_append _ _).trans hpre
   by_cases hlv : 1 < v
   ·
    rw [if_pos hlv]
    have key : ∀ j, j ≤ 4 → foldL (endL L m) x (upto out.length) j = upto (outK (Tr.n v a b c d).q out j).length := by
     intro j
     induction j with
     | zero => exact fun _ => rfl
     | succ j ihj =>
      intro hj
      show stepL (endL L m) (foldL (endL L m) x (upto out.length) j) (x.kid j) = _
      rw [ihj (by omega), hx, topN_kid _ _ _ (by omega)]
      have hkj := hkk j (by omega)
      have hkj1 := hkk (j + 1) hj
      have hwj := wf_q hw j
      show stepL _ _ (enc ((Tr.n v a b c d).q j) (outK (Tr.n v a b c d).q out j)).2 = upto (enc ((Tr.n v a b c d).q j) (outK (Tr.n v a b c d).q out j)).1.length
      have hpj : (enc ((Tr.n v a b c d).q j) (outK (Tr.n v a b c d).q out j)).1 <+: L := by
       have key2 : ∀ i, i ≤ 4 → ∀ j, j ≤ i → outK (Tr.n v a b c d).q out j <+: outK (Tr.n v a b c d).q out i := by
        intro i
        induction i with
        | zero => intro _ j hj; rw [show j = 0 by omega]; exact List.prefix_refl _
        | succ i ih2 =>
         intro hi j hj
         rcases Nat.lt_or_ge j (i + 1) with h1 | h1
         ·
          exact (ih2 (by omega) j (by omega)).trans (enc_spec _ (v - 1) _ (wf_q hw i) (hkk i (by omega)).good).pre
         ·
          rw [show j = i + 1 by omega]; exact List.prefix_refl _
       have := key2 4 (Nat.le_refl _) (j + 1) hj
       rw [← ho4] at this
       exact this.trans hpre4
      have hsp := enc_spec ((Tr.n v a b c d).q j) (v - 1) _ hwj hkj.good
      have hih := ih j (by omega) (v - 1) _ m hwj hkj.good hpj (by omega)
      cases ht : (Tr.n v a b c d).q j with
      | e =>
       unfold stepL
       rw [if_neg (by simp [enc])]
       rfl
      | s k =>
       rw [ht] at hwj
       have := hwj.1
       omega
      | n u2 a2 b2 c2 d2 =>
       rw [ht] at hih hsp
       have h1 := hsp.num.1
       unfold stepL
       rw [if_pos (by omega)]
       exact hih (by simp) (by simp)
    rw [key 4 (Nat.le_refl _), ← ho4]
   ·
    rw [if_neg hlv]
    have hv : v = 1 := by omega
    have key : ∀ j, j ≤ 4 → outK (Tr.n v a b c d).q out j = out := by
     intro j
     induction j with
     | zero => exact fun _ => rfl
     | succ j ihj =>
      intro hj
      show (enc ((Tr.n v a b c d).q j) (outK (Tr.n v a b c d).q out j)).1 = out
      rw [ihj (by omega)]
      have hwj := wf_q hw j
      cases ht : (Tr.n v a b c d).q j with
      | e => rfl
      | s k => rfl
      | n u2 a2 b2 c2 d2 =>
       rw [ht] at hwj
       obtain ⟨h1, h2, _⟩ := hwj
       omega
    rw [ho4, key 4 (Nat.le_refl _)]
end Go.Proofs.YtmfncapgikobkaaGreat.Nds

namespace Go.Proofs.YtmfncapgikobkaaGreat
set_option maxRecDepth 100000
set_option linter.unusedVariables false
set_option linter.unusedSimpArgs false
open Nds
theorem nodeE_norm {l : List Nd} {y : Nd} (hf : fitB l y = true) : nodeE ((dens l).map Tr.isE) y = (norm (dens l) y).isE := by
 have hv := fit_lv hf
 rw [norm_isE]
 unfold nodeE
 refine each_congr fun i hi => ?_
 have hk := fit_kid hf hi
 by_cases h1 : y.lv = 1
 ·
  rw [h1, kidT_one]
  unfold st
  by_cases h0 : y.kid i = 0
  ·
   rw [h0]; rfl
  ·
   rw [if_neg h0, beq_eq_false_iff_ne.2 h0]; rfl
 ·
  rw [kidT_den h1, decide_eq_true (show 1 < y.lv by omega), Bool.true_and]
  rcases kid_up h1 hk with e | ⟨p, e, hp, _⟩
  ·
   rw [e, show (0 : Int).toNat = 0 from rfl, den_zero]; rfl
  ·
   rw [e, beq_eq_false_iff_ne.2 (show (p : Int) + 1 ≠ 0 by omega), Bool.false_or, show ((p : Int) + 1).toNat = p + 1 by omega]
   unfold den
   have hlt : p + 1 < (dens l).length := by rw [dens_len]; omega
   rw [List.getD_eq_getElem?_getD, List.getD_eq_getElem?_getD, List.getElem?_map, List.getElem?_eq_getElem hlt]
   rfl
theorem emps_dens {l : List Nd} (h : looseB l = true) : emps l = (dens l).map Tr.isE := by
 suffices hk : ∀ k, k ≤ l.length → emps (l.take k) = (dens (l.take k)).map Tr.isE by
  have := hk l.length (Nat.le_refl _)
  rwa [List.take_of_length_le (Nat.le_refl _)] at this
 intro k
 induction k with
 | zero => intro _; rfl
 | succ k ih =>
  intro hk
  rw [take_at (by omega), emps_snoc, dens_snoc, ih (by omega), List.map_append, nodeE_norm (loose_iff.1 h k (by omega))]
  rfl
theorem empB_den {l : List Nd} (h : looseB l = true) {n : Nat} (hn : n ≤ l.length) : empB l n = (den l n).isE := by
 unfold empB den
 have hlt : n < (dens l).length := by rw [dens_len]; omega
 rw [emps_dens h, List.getD_eq_getElem?_getD, List.getD_eq_getElem?_getD, List.getElem?_map, List.getElem?_eq_getElem hlt]
 rfl
theorem nodeEmp_norm {l : List Nd} (h : looseB l = true) {y : Nd} (hf : fitB l y = true) : nodeEmp l y = (norm (dens l) y).isE := by
 unfold nodeEmp
 rw [emps_dens h]
 exact nodeE_norm hf
theorem hollow_den {l : List Nd} (h : looseB l = true) {p : Nat} (hp : p < l.length) (hne : den l (p + 1) ≠ .e) : hollowB l (p + 1) = holT (den l (p + 1)) := by
 have hf := loose_fit h hp
 have hd := den_loose h hp
 have hl : (den l (p + 1)).lv = (at_ l p).lv := by rw [hd]; exact norm_lv (by rw [← hd]; exact hne)
 have hq : ∀ i, i < 4 → (den l (p + 1)).q i = kidT (dens l) (at_ l p).lv ((at_ l p).kid i) := fun i hi => by rw [hd]; exact norm_q _ _ hi
 rw [Bool.eq_iff_iff, hol_iff]
 unfold hollowB
 rw [Bool.and_eq_true, decide_eq_true_iff, List.all_eq_true, hl, show p + 1 - 1 = p by omega]
 have key : ∀ i, i < 4 → 1 < (at_ l p).lv → ((decide ((at_ l p).kid i = 0) || nodeEmp l (rim (at_ l (((at_ l p).kid i).toNat - 1)) i)) = true ↔ ∀ j, j < 4 → j + i ≠ 3 → ((den l (p + 1)).q i).q j = .e) := by
  intro i hi hlv
  rw [hq i hi]
  have h1 : (at_ l p).lv ≠ 1 := by omega
  rw [kidT_den h1]
  rcases kid_up h1 (fit_kid hf hi) with e | ⟨r, e, hr, hrl⟩
  ·
   rw [e, show (0 : Int).toNat = 0 from rfl, den_zero]
   simp [Tr.q]
  ·
   rw [e, decide_eq_false (show ¬ (r : Int) + 1 = 0 by omega), Bool.false_or, show ((r : Int) + 1).toNat = r + 1 by omega, show r + 1 - 1 = r by omega]
   have hfr := loose_fit h hr
   rw [nodeEmp_norm h (rim_fit hfr i), den_loose h hr, isE_iff, norm_isE_iff]
   constructor
   ·
    intro hh j hj hji
    rw [norm_q _ _ hj]
    have := hh j hj
    rwa [rim_lv, rim_at hi hj, if_neg hji] at this
   ·
    intro hh j hj
    rw [rim_lv, rim_at hi hj]
    split
    ·
     unfold kidT
     split
     ·
      rfl
     ·
      exact den_zero l
    ·
     rename_i hji
     have := hh j hj hji
     rwa [norm_q _ _ hj] at this
 constructor
 ·
  rintro ⟨⟨_, h2⟩, h3⟩
  exact ⟨by omega, fun i hi => (key i hi (by omega)).1 (h3 i (List.mem_range.2 hi))⟩
 ·
  rintro ⟨h1, h2⟩
  exact ⟨⟨by omega, by omega⟩, fun i hi => (key i (List.mem_range.1 hi) h1).2 (h2 i (List.mem_range.1 hi))⟩
def OfL (l : List Nd) (n : Nat) : List Nd := (enc (shrT (den l n)) []).1
theorem wf_denn {l : List Nd} (h : looseB l = true) {n : Nat} (hn : n ≤ l.length) : ∃ v, wfT v (den l n) := by
 cases n with
 | zero => rw [den_zero]; exact ⟨0, trivial⟩
 | succ p => exact ⟨_, wf_den h p (by omega)⟩
theorem den_not_s {l : List Nd} {n : Nat} {k : Int} : den l n ≠ .s k := by
 intro e
 rcases den_form l n with h | ⟨v, a, b, c, d, h⟩
 ·
  rw [h] at e; cases e
 ·
  rw [h] at e; cases e
theorem enc_root {v : Int} {t : Tr} (hw : wfT v t) (hne : t ≠ .e) (hs : ∀ k, t ≠ .s k) : (enc t []).2 = ((enc t []).1.length : Int) ∧ 0 < (enc t []).1.length ∧ den (enc t []).1 (enc t []).1.length = t := by
 have hsp := enc_spec t v [] hw good_nil
 cases t with
 | e => exact absurd rfl hne
 | s k => exact absurd rfl (hs k)
 | n u a b c d =>
  have hend := end_enc (L := (enc (.n u a b c d) []).1) (.n u a b c d) v [] 1329 hw good_nil (List.prefix_refl _) (by obtain ⟨rfl, _, h, _⟩ := hw; exact h) (by simp) (by simp)
  obtain ⟨h1, h2, h3⟩ := hsp.num
  -- the root comes last: its number is the greatest
  have hv : v = u := hw.1
  subst hv
  rw [enc_n] at h1 h2 h3 ⊢
  have h4 := encK_of (v := v - 1) (f := (Tr.n v a b c d).q) good_nil (fun i hi o ho => enc_spec _ (v - 1) o (wf_q hw i) ho) 4 (Nat.le_refl _)
  obtain ⟨o4, ho4⟩ : ∃ o4, o4 = outK (Tr.n v a b c d).q [] 4 := ⟨_, rfl⟩
  obtain ⟨x, hx⟩ : ∃ x, x = topN (Tr.n v a b c d).q [] v := ⟨_, rfl⟩
  have hxv : x.lv = v := by rw [hx]; rfl
  rw [← ho4, ← hx] at h1 h2 h3 ⊢
  rcases fnd_cases o4 x with ⟨e, hf⟩ | ⟨i, hi, he, e⟩
  ·
   have hadd : add o4 x = (o4 ++ [x], o4.length + 1) := by
    unfold add
    rw [if_pos e]
   rw [hadd] at h1 h2 h3 ⊢
   simp only [Int.toNat_natCast] at h3
   refine ⟨by simp, by simp, ?_⟩
   simp only [List.length_append, List.length_cons, List.length_nil]
   exact h3
  ·
   exfalso
   have := h4.lvs i (Nat.zero_le _) (by rw [← ho4]; exact hi)
   rw [← ho4, he, hxv] at this
   omega
theorem quad_of_tree {v : Int} {t : Tr} (hw : wfT v t) (hs : ∀ k, t ≠ .s k) (hh : holT t = false) : quadB (enc t []).1 = true := by
 by_cases hne : t = .e
 ·
  subst hne
  rfl
 ·
  obtain ⟨hr, h0, hd⟩ := enc_root hw hne hs
  have hsp := enc_spec t v [] hw good_nil
  have hend := end_enc (L := (enc t []).1) t v [] 1329 hw good_nil (List.prefix_refl _) (by
   cases t with
   | e => exact absurd rfl hne
   | s k => exact absurd rfl (hs k)
   | n u a b c d => obtain ⟨rfl, _, h, _⟩ := hw; exact h) hne hs
  rw [hr, Int.toNat_natCast] at hend
  obtain ⟨q, hq⟩ : ∃ q, q = (enc t []).1 := ⟨_, rfl⟩
  have hg := hsp.good
  rw [← hq] at h0 hd hend hg ⊢
  have hqn : q ≠ [] := fun e => by rw [e] at h0; simp at h0
  obtain ⟨p, hp⟩ : ∃ p, q.length = p + 1 := ⟨q.length - 1, by omega⟩
  refine (quad_iff hqn hg.1).2 ⟨?_, fun i hi => ⟨?_, ?_⟩, hend⟩
  ·
   rw [hp] at hd ⊢
   rw [hollow_den hg.1 (by omega) (by rw [hd]; exact hne), hd]
   exact hh
  ·
   rw [empB_den hg.1 (by omega)]
   exact isE_no.2 (hg.2 i hi).1
  ·
   exact at_not_take hi fun j hj e => (hg.2 i hi).2 j hj e.symm
theorem shr_not_s {v : Int} {t : Tr} (hw : wfT v t) (hs : ∀ k, t ≠ .s k) : ∀ k, shrT t ≠ .s k := by
 by_cases hh : holT t = true
 ·
  intro k e
  -- what is left is a node or nothing
  have key : ∀ (m : Nat) (t : Tr), (∀ k, t ≠ .s k) → ∀ k, shrF m t ≠ .s k := by
   intro m
   induction m with
   | zero => exact fun t h => h
   | succ m ih =>
    intro t h
    unfold shrF
    split
    ·
     refine ih _ fun k e => ?_
     unfold innT mk at e
     split at e <;> cases e
    ·
     exact h
  exact key _ t hs k e
 ·
  rw [shr_done (by simpa using hh)]
  exact hs
theorem ofL_tree {l : List Nd} (h : looseB l = true) {n : Nat} (hn : n ≤ l.length) : ∃ v, wfT v (shrT (den l n)) ∧ (∀ k, shrT (den l n) ≠ .s k) ∧ holT (shrT (den l n)) = false := by
 obtain ⟨v, hw⟩ := wf_denn h hn
 obtain ⟨u, hu⟩ := shr_wf hw
 exact ⟨u, hu, shr_not_s hw (fun k => den_not_s), shr_stop hw⟩
theorem ofL_quad {l : List Nd} (h : looseB l = true) {n : Nat} (hn : n ≤ l.length) : quadB (OfL l n) = true := by
 obtain ⟨v, h1, h2, h3⟩ := ofL_tree h hn
 exact quad_of_tree h1 h2 h3
/- How many nodes a quad has. -/
theorem num_at {out : List Nd} (hg : GoodL out) {i : Nat} (hi : i < out.length) : NumT out (den out (i + 1)) ((i : Int) + 1) := by
 rcases den_form out (i + 1) with h | ⟨v, a, b, c, d, h⟩
 ·
  exact absurd h (hg.2 i hi).1
 ·
  rw [h]
  exact ⟨by omega, by omega, by rw [show ((i : Int) + 1).toNat = i + 1 by omega]; exact h⟩
theorem good_inj {out : List Nd} (hg : GoodL out) {i j : Nat} (hi : i < out.length) (hj : j < out.length) (h : den out (i + 1) = den out (j + 1)) : i = j := by
 have h1 := enc_memo hg _ _ (num_at hg hi)
 have h2 := enc_memo hg _ _ (num_at hg hj)
 rw [h, h2] at h1
 have := congrArg Prod.snd h1
 simp only at this
 omega
def SubT (l out : List Nd) : Prop := ∀ i, i < out.length → ∃ j, 0 < j ∧ j ≤ l.length ∧ den l j = den out (i + 1)
theorem sub_len {l out : List Nd} (hg : GoodL out) (hs : SubT l out) : out.length ≤ l.length := by
 have key : ∀ k, k ≤ out.length → ∃ js : List Nat, js.length = k ∧ js.Nodup ∧ ∀ v ∈ js, (0 < v ∧ v ≤ l.length) ∧ ∃ i, i < k ∧ den l v = den out (i + 1) := by
  intro k
  induction k with
  | zero => exact fun _ => ⟨[], rfl, List.nodup_nil, fun v hv => by cases hv⟩
  | succ k ih =>
   intro hk
   obtain ⟨js, h1, h2, h3⟩ := ih (by omega)
   obtain ⟨j, j0, j1, j2⟩ := hs k (by omega)
   refine ⟨j :: js, by simp [h1], List.nodup_cons.2 ⟨fun hm => ?_, h2⟩, fun v hv => ?_⟩
   ·
    obtain ⟨_, i, hi, he⟩ := h3 j hm
    have := good_inj hg (by omega) (by omega) (he.symm.trans j2)
    omega
   ·
    rcases List.mem_cons.1 hv with rfl | hv
    ·
     exact ⟨⟨j0, j1⟩, k, by omega, j2⟩
    ·
     obtain ⟨a, i, hi, he⟩ := h3 v hv
     exact ⟨a, i, by omega, he⟩
 obtain ⟨js, h1, h2, h3⟩ := key out.length (Nat.le_refl _)
 rw [← h1]
 exact nodup_le l.length js h2 fun v hv => (h3 v hv).1
def InvT (l out : List Nd) : Prop := GoodL out ∧ SubT l out
theorem inv_nil (l : List Nd) : InvT l [] := ⟨good_nil, fun i hi => absurd hi (Nat.not_lt_zero i)⟩
theorem InvT.len {l out : List Nd} (h : InvT l out) : out.length ≤ l.length := sub_len h.1 h.2
def kT (l : List Nd) (x : Nd) (i : Nat) : Tr := kidT (dens l) x.lv (x.kid i)
theorem outK_congr {f g : Nat → Tr} {out : List Nd} : ∀ k, (∀ i, i < k → f i = g i) → outK f out k = outK g out k
 | 0, _ => rfl
 | k + 1, h => by
  show (enc (f k) (outK f out k)).1 = (enc (g k) (outK g out k)).1
  rw [outK_congr k fun i hi => h i (by omega), h k (by omega)]
theorem numK_congr {f g : Nat → Tr} {out : List Nd} {k : Nat} (h : ∀ i, i ≤ k → f i = g i) : numK f out k = numK g out k := by
 unfold numK
 rw [outK_congr k fun i hi => h i (by omega), h k (Nat.le_refl _)]
theorem topN_congr {f g : Nat → Tr} {out : List Nd} {v : Int} (h : ∀ i, i < 4 → f i = g i) : topN f out v = topN g out v := by
 unfold topN
 rw [numK_congr (k := 0) fun i hi => h i (by omega), numK_congr (k := 1) fun i hi => h i (by omega), numK_congr (k := 2) fun i hi => h i (by omega), numK_congr (k := 3) fun i hi => h i (by omega)]
theorem enc_st (k : Int) (out : List Nd) : enc (st k) out = (out, k) := by
 unfold st
 split
 ·
  rename_i h
  rw [h]
  rfl
 ·
  rfl
theorem kT_one {l : List Nd} {x : Nd} (h : x.lv = 1) (out : List Nd) : ∀ k, outK (kT l x) out k = out
 | 0 => rfl
 | k + 1 => by
  show (enc (kT l x k) (outK (kT l x) out k)).1 = out
  rw [kT_one h out k]
  unfold kT
  rw [h, kidT_one, enc_st]
theorem top_one {l : List Nd} {x : Nd} (h : x.lv = 1) (out : List Nd) : topN (kT l x) out x.lv = x := by
 have key : ∀ i, i < 4 → numK (kT l x) out i = x.kid i := by
  intro i hi
  unfold numK
  rw [kT_one h out i]
  unfold kT
  rw [h, kidT_one, enc_st]
 unfold topN
 rw [key 0 (by omega), key 1 (by omega), key 2 (by omega), key 3 (by omega)]
 rfl
theorem enc_visit {l : List Nd} (h : looseB l = true) {p : Nat} (hp : p < l.length) (out : List Nd) : enc (den l (p + 1)) out =
  if (den l (p + 1)).isE = true then (out, 0) else ((add (outK (kT l (at_ l p)) out 4) (topN (kT l (at_ l p)) out (at_ l p).lv)).1, ((add (outK (kT l (at_ l p)) out 4) (topN (kT l (at_ l p)) out (at_ l p).lv)).2 : Int)) := by
 by_cases he : den l (p + 1) = .e
 ·
  rw [if_pos (isE_iff.2 he), he]
  rfl
 ·
  rw [if_neg (fun e => he (isE_iff.1 e))]
  have hd := den_loose h hp
  have hq : ∀ i, i < 4 → (den l (p + 1)).q i = kT l (at_ l p) i := fun i hi => by rw [hd]; exact norm_q _ _ hi
  have hl : (den l (p + 1)).lv = (at_ l p).lv := by rw [hd]; exact norm_lv (by rw [← hd]; exact he)
  rcases den_form l (p + 1) with h1 | ⟨v, a, b, c, d, h1⟩
  ·
   exact absurd h1 he
  ·
   rw [h1] at hq hl ⊢
   have hv : v = (at_ l p).lv := hl
   rw [enc_n, outK_congr 4 hq, topN_congr hq, hv]
theorem kT_cases {l : List Nd} {x : Nd} (hx : fitB l x = true) {i : Nat} (hi : i < 4) : (∃ k, kT l x i = st k) ∨ ∃ j, j ≤ l.length ∧ kT l x i = den l j ∧ x.kid i = j ∧ x.lv ≠ 1 := by
 have hk := fit_kid hx hi
 unfold kT
 by_cases h1 : x.lv = 1
 ·
  rw [h1, kidT_one]
  exact .inl ⟨_, rfl⟩
 ·
  rw [kidT_den h1]
  rcases kid_up h1 hk with e | ⟨q, e, hq, _⟩
  ·
   exact .inr ⟨0, Nat.zero_le _, by rw [e]; rfl, by rw [e]; rfl, h1⟩
  ·
   exact .inr ⟨q + 1, by omega, by rw [e, show ((q : Int) + 1).toNat = q + 1 by omega], by omega, h1⟩
theorem kT_wf {l : List Nd} (h : looseB l = true) {p : Nat} (hp : p < l.length) {i : Nat} (hi : i < 4) : wfT ((at_ l p).lv - 1) (kT l (at_ l p) i) := by
 have hw := wf_q (wf_den h p hp) i
 rwa [den_loose h hp, norm_q _ _ hi] at hw
theorem sub_app {l out : List Nd} {x : Nd} (hs : SubT l out) (hx : ∃ j, 0 < j ∧ j ≤ l.length ∧ den l j = norm (dens out) x) : SubT l (out ++ [x]) := by
 intro i hi
 simp only [List.length_append, List.length_cons, List.length_nil] at hi
 rcases Nat.lt_or_ge i out.length with h1 | h1
 ·
  rw [den_app (by omega)]
  exact hs i h1
 ·
  rw [show i = out.length by omega, den_last]
  exact hx
theorem inv_enc {l : List Nd} (h : looseB l = true) : ∀ (n : Nat) (out : List Nd), n ≤ l.length → InvT l out → InvT l (enc (den l n) out).1 := by
 intro n
 induction n using Nat.strongRecOn with
 | _ n ih =>
  intro out hn hi
  by_cases he : den l n = .e
  ·
   rw [he]
   exact hi
  ·
   obtain ⟨p, rfl⟩ : ∃ p, n = p + 1 := ⟨n - 1, by have : n ≠ 0 := fun e => he (by rw [e]; exact den_zero l); omega⟩
   have hp : p < l.length := by omega
   have hw := wf_den h p hp
   refine ⟨(enc_spec _ _ out hw hi.1).good, ?_⟩
   have hkk : ∀ k, k ≤ 4 → InvT l (outK (kT l (at_ l p)) out k) := by
    intro k
    induction k with
    | zero => exact fun _ => hi
    | succ k ih2 =>
     intro hk
     show InvT l (enc (kT l (at_ l p) k) (outK (kT l (at_ l p)) out k)).1
     have hf := loose_iff.1 h p hp
     have i1 := ih2 (by omega)
     rcases kT_cases (fit_mono hf) (i := k) (by omega) with ⟨s, hs⟩ | ⟨j, hj, hs, hkj, h1⟩
     ·
      rw [hs, enc_st]
      exact i1
     ·
      rw [hs]
      refine ih j ?_ _ hj i1
      rcases kid_up h1 (fit_kid hf (i := k) (by omega)) with e | ⟨q, e, hq, _⟩
      ·
       omega
      ·
       have := List.length_take_le p l
       omega
   have h4 := hkk 4 (Nat.le_refl _)
   have hd := den_loose h hp
   have hq : ∀ i, i < 4 → (den l (p + 1)).q i = kT l (at_ l p) i := fun i hi => by rw [hd]; exact norm_q _ _ hi
   have hl : (den l (p + 1)).lv = (at_ l p).lv := by rw [hd]; exact norm_lv (by rw [← hd]; exact he)
   rw [enc_visit h hp, if_neg (fun e => he (isE_iff.1 e))]
   unfold add
   split
   ·
    refine sub_app h4.2 ⟨p + 1, by omega, hn, ?_⟩
    rcases den_form l (p + 1) with h1 | ⟨v, a, b, c, d, h1⟩
    ·
     exact absurd h1 he
    ·
     rw [h1] at hq hl hw ⊢
     have hv : v = (at_ l p).lv := hl
     rw [← hv] at hw
     have hK := encK_of (v := v - 1) (f := (Tr.n v a b c d).q) hi.1 (fun i hi o ho => enc_spec _ (v - 1) o (wf_q hw i) ho) 4 (Nat.le_refl _)
     have ht := (top_of hw hK).2
     rw [outK_congr 4 hq, topN_congr hq, hv] at ht
     rw [← hv] at ht ⊢
     exact ht.symm
   ·
    exact h4.2
theorem inv_outK {l : List Nd} (h : looseB l = true) {p : Nat} (hp : p < l.length) {out : List Nd} (hi : InvT l out) : ∀ k, k ≤ 4 → InvT l (outK (kT l (at_ l p)) out k) := by
 intro k
 induction k with
 | zero => exact fun _ => hi
 | succ k ih =>
  intro hk
  show InvT l (enc (kT l (at_ l p) k) (outK (kT l (at_ l p)) out k)).1
  rcases kT_cases (loose_fit h hp) (i := k) (by omega) with ⟨s, hs⟩ | ⟨j, hj, hs, _⟩
  ·
   rw [hs, enc_st]
   exact ih (by omega)
  ·
   rw [hs]
   exact inv_enc h j _ hj (ih (by omega))
theorem outK_pre {l : List Nd} (h : looseB l = true) {p : Nat} (hp : p < l.length) {out : List Nd} (hi : InvT l out) : ∀ k, k ≤ 4 → out <+: outK (kT l (at_ l p)) out k := by
 intro k
 induction k with
 | zero => exact fun _ => List.prefix_refl _
 | succ k ih =>
  intro hk
  exact (ih (by omega)).trans (enc_spec _ _ _ (kT_wf h hp (by omega)) (inv_outK h hp hi k (by omega)).1).pre
end Go.Proofs.YtmfncapgikobkaaGreat

namespace Go.Proofs.YtmfncapgikobkaaGreat
set_option maxRecDepth 100000
set_option linter.unusedVariables false
set_option linter.unusedSimpArgs false
open Nds
def innK (l : List Nd) (x : Nd) (k : Nat) : Int := if x.kid k = 0 then 0 else (at_ l ((x.kid k).toNat - 1)).kid (3 - k)
def innN (l : List Nd) (x : Nd) : Nd := ⟨x.lv - 1, innK l x 0, innK l x 1, innK l x 2, innK l x 3⟩
theorem innN_kid (l : List Nd) (x : Nd) {k : Nat} (hk : k < 4) : (innN l x).kid k = innK l x k := by
 match k, hk with
 | 0, _ => rfl
 | 1, _ => rfl
 | 2, _ => rfl
 | 3, _ => rfl
theorem kidT_zero (l : List Nd) (v : Int) : kidT (dens l) v 0 = .e := by
 unfold kidT
 split
 ·
  rfl
 ·
  exact den_zero l
theorem innK_at {l : List Nd} (hl : looseB l = true) {p : Nat} (hp : p < l.length) (hv : 1 < (at_ l p).lv) {k : Nat} (hk : k < 4) :
  kidB l ((at_ l p).lv - 1) (innK l (at_ l p) k) = true ∧ kidT (dens l) ((at_ l p).lv - 1) (innK l (at_ l p) k) = ((den l (p + 1)).q k).q (3 - k) := by
 have hf := fit_kid (loose_fit hl hp) hk
 have h1 : (at_ l p).lv ≠ 1 := by omega
 rw [den_loose hl hp, norm_q _ _ hk, kidT_den h1]
 unfold innK
 rcases kid_up h1 hf with e | ⟨r, e, hr, hrl⟩
 ·
  rw [e, if_pos rfl, show (0 : Int).toNat = 0 from rfl, den_zero]
  exact ⟨kid_zero _ _, kidT_zero _ _⟩
 ·
  rw [e, if_neg (by omega), show ((r : Int) + 1).toNat = r + 1 by omega, show r + 1 - 1 = r by omega, den_loose hl hr, norm_q _ _ (by omega), hrl]
  refine ⟨?_, rfl⟩
  have := fit_kid (loose_fit hl hr) (i := 3 - k) (by omega)
  rwa [hrl] at this
theorem inn_step {l : List Nd} (hl : looseB l = true) {p : Nat} (hp : p < l.length) (hv : 1 < (at_ l p).lv) (hne : den l (p + 1) ≠ .e) : fitB l (innN l (at_ l p)) = true ∧ norm (dens l) (innN l (at_ l p)) = innT (den l (p + 1)) := by
 have hlv := fit_lv (loose_fit hl hp)
 have e : (den l (p + 1)).lv = (at_ l p).lv := by
  rw [den_loose hl hp]
  exact norm_lv (by rw [← den_loose hl hp]; exact hne)
 have key := fun {k : Nat} (hk : k < 4) => innK_at hl hp hv hk
 refine ⟨?_, ?_⟩
 ·
  unfold fitB
  rw [Bool.and_eq_true, each_iff]
  exact ⟨decide_eq_true (show 1 ≤ (at_ l p).lv - 1 ∧ (at_ l p).lv - 1 ≤ 1329 by omega), fun i hi => by rw [innN_kid _ _ hi]; exact (key hi).1⟩
 ·
  unfold innT
  rw [e]
  show mk ((at_ l p).lv - 1) (kidT _ ((at_ l p).lv - 1) (innK l (at_ l p) 0)) (kidT _ ((at_ l p).lv - 1) (innK l (at_ l p) 1)) (kidT _ ((at_ l p).lv - 1) (innK l (at_ l p) 2)) (kidT _ ((at_ l p).lv - 1) (innK l (at_ l p) 3)) = _
  rw [(key (by omega : 0 < 4)).2, (key (by omega : 1 < 4)).2, (key (by omega : 2 < 4)).2, (key (by omega : 3 < 4)).2]
theorem hol_lv {l : List Nd} (hl : looseB l = true) {p : Nat} (hp : p < l.length) (hh : holT (den l (p + 1)) = true) : 1 < (at_ l p).lv ∧ den l (p + 1) ≠ .e := by
 have h1 := (hol_iff.1 hh).1
 have hne : den l (p + 1) ≠ .e := fun e => by rw [e] at h1; exact absurd h1 (by simp [Tr.lv])
 refine ⟨?_, hne⟩
 rwa [den_loose hl hp, norm_lv (by rw [← den_loose hl hp]; exact hne)] at h1
theorem shr_list {l : List Nd} (hl : looseB l = true) {p : Nat} (hp : p < l.length) (hh : holT (den l (p + 1)) = true) :
  looseB (l ++ [innN l (at_ l p)]) = true ∧ den (l ++ [innN l (at_ l p)]) (l.length + 1) = innT (den l (p + 1)) ∧ innT (den l (p + 1)) ≠ .e ∧ shrT (innT (den l (p + 1))) = shrT (den l (p + 1)) := by
 obtain ⟨hv, hne⟩ := hol_lv hl hp hh
 obtain ⟨hf, hn⟩ := inn_step hl hp hv hne
 exact ⟨loose_snoc hl hf, by rw [den_last]; exact hn, inn_ne (wf_den hl p hp) hh, (shr_step hh).symm⟩
theorem kid_in64 {l : List Nd} {v k : Int} (h : kidB l v k = true) (hl : l.length ≤ 1000000) : in64 k := by
 by_cases hv : v = 1
 ·
  subst hv
  rw [kidB, if_pos rfl, decide_eq_true_iff] at h
  exact ⟨by omega, by omega⟩
 ·
  rcases kid_up hv h with rfl | ⟨m, rfl, hm, _⟩
  ·
   exact ⟨by omega, by omega⟩
  ·
   exact ⟨by omega, by omega⟩
theorem fit_wf {l : List Nd} {x : Nd} (h : fitB l x = true) (hl : l.length ≤ 1000000) : x.wf := by
 have hv := fit_lv h
 exact ⟨⟨by omega, by omega⟩, kid_in64 (fit_kid h (i := 0) (by omega)) hl, kid_in64 (fit_kid h (i := 1) (by omega)) hl, kid_in64 (fit_kid h (i := 2) (by omega)) hl, kid_in64 (fit_kid h (i := 3) (by omega)) hl⟩
def bareK (l : List Nd) (v k : Int) : Int := if v ≠ 1 ∧ (den l k.toNat).isE = true then 0 else k
def bareN (l : List Nd) (x : Nd) : Nd := ⟨x.lv, bareK l x.lv x.a, bareK l x.lv x.b, bareK l x.lv x.c, bareK l x.lv x.d⟩
def bareL (l : List Nd) : List Nd := l.map (bareN l)
theorem bareN_kid (l : List Nd) (x : Nd) {k : Nat} (hk : k < 4) : (bareN l x).kid k = bareK l x.lv (x.kid k) := by
 match k, hk with
 | 0, _ => rfl
 | 1, _ => rfl
 | 2, _ => rfl
 | 3, _ => rfl
theorem bareK_zero {l : List Nd} {v k : Int} (hv : v ≠ 1) (hk : kidB l v k = true) : bareK l v k = 0 ↔ kidT (dens l) v k = .e := by
 rw [kidT_den hv, ← isE_iff]
 unfold bareK
 split
 ·
  rename_i h
  exact ⟨fun _ => h.2, fun _ => rfl⟩
 ·
  rename_i h
  refine ⟨fun e => ?_, fun e => absurd ⟨hv, e⟩ h⟩
  rw [e, show (0 : Int).toNat = 0 from rfl, den_zero]
  rfl
theorem bareK_kid {l m : List Nd} {v k : Int} (hk : kidB m v k = true) : kidB m v (bareK l v k) = true := by
 unfold bareK
 split
 ·
  exact kid_zero _ _
 ·
  exact hk
theorem bare_len (l : List Nd) : (bareL l).length = l.length := by
 unfold bareL
 rw [List.length_map]
theorem bare_at {l : List Nd} {i : Nat} (hi : i < l.length) : at_ (bareL l) i = bareN l (at_ l i) := by
 unfold at_ bareL
 rw [List.getElem?_map, List.getElem?_eq_getElem hi]
 rfl
theorem bare_dens {l : List Nd} (hl : looseB l = true) : dens (bareL l) = dens l ∧ looseB (bareL l) = true := by
 suffices h : ∀ k, k ≤ l.length → dens ((bareL l).take k) = dens (l.take k) ∧ looseB ((bareL l).take k) = true by
  have := h l.length (Nat.le_refl _)
  rwa [List.take_of_length_le (Nat.le_refl _), List.take_of_length_le (by rw [bare_len]; exact Nat.le_refl _)] at this
 intro k
 induction k with
 | zero => exact fun _ => ⟨rfl, rfl⟩
 | succ k ih =>
  intro hk
  obtain ⟨i1, i2⟩ := ih (by omega)
  have hf := loose_iff.1 hl k (by omega)
  have hv := fit_lv hf
  rw [take_at (l := bareL l) (by rw [bare_len]; omega), take_at (l := l) (by omega), dens_snoc, dens_snoc, i1, bare_at (by omega)]
  obtain ⟨x, hx⟩ : ∃ x, x = at_ l k := ⟨_, rfl⟩
  rw [← hx] at hf hv ⊢
  have hlk : (l.take k).length = k := by rw [List.length_take]; omega
  have hkid : ∀ i, i < 4 → kidT (dens (l.take k)) x.lv ((bareN l x).kid i) = kidT (dens (l.take k)) x.lv (x.kid i) := by
   intro i hi
   rw [bareN_kid _ _ hi]
   unfold bareK
   split
   ·
    rename_i h
    rw [kidT_zero, kidT_den h.1]
    rcases kid_up h.1 (fit_kid hf hi) with e | ⟨r, e, hr, _⟩
    ·
     rw [e]
     exact (den_zero _).symm
    ·
     rw [e] at h ⊢
     rw [den_take (by omega) (by omega)]
     exact (isE_iff.1 h.2).symm
   ·
    rfl
  have hfit : fitB ((bareL l).take k) (bareN l x) = true := by
   unfold fitB
   rw [Bool.and_eq_true, each_iff]
   refine ⟨decide_eq_true hv, fun i hi => ?_⟩
   rw [bareN_kid _ _ hi]
   refine bareK_kid ?_
   show kidB _ x.lv _ = true
   have h1 := fit_kid hf hi
   by_cases h2 : x.lv = 1
   ·
    rw [h2] at h1 ⊢
    exact h1
   ·
    rcases kid_up h2 h1 with e | ⟨r, e, hr, hrl⟩
    ·
     rw [e]
     exact kidB_zero _ _ h2
    ·
     rw [hlk] at hr
     rw [e, kidB_in _ _ _ h2 (by rw [List.length_take, bare_len]; omega), at_take hr, bare_at (by omega)]
     rw [at_take hr] at hrl
     exact decide_eq_true hrl
  refine ⟨?_, loose_snoc i2 hfit⟩
  rw [norm_congr (x := bareN l x) (y := x) rfl hkid]
def Bar (l : List Nd) : Prop := ∀ i, i < l.length → ∀ j, j < 4 → kidT (dens l) (at_ l i).lv ((at_ l i).kid j) = .e → (at_ l i).kid j = 0
theorem st_e {k : Int} (h : st k = .e) : k = 0 := by
 unfold st at h
 split at h
 ·
  assumption
 ·
  cases h
theorem bare_bar {l : List Nd} (hl : looseB l = true) : Bar (bareL l) := by
 intro i hi j hj h
 rw [bare_len] at hi
 rw [(bare_dens hl).1] at h
 have hf := loose_fit hl hi
 rw [bare_at hi, bareN_kid _ _ hj] at h ⊢
 obtain ⟨x, hx⟩ : ∃ x, x = at_ l i := ⟨_, rfl⟩
 rw [← hx] at h hf ⊢
 have h' : kidT (dens l) x.lv (bareK l x.lv (x.kid j)) = .e := h
 by_cases h1 : x.lv = 1
 ·
  rw [h1, kidT_one] at h'
  rw [h1]
  exact st_e h'
 ·
  refine (bareK_zero h1 (fit_kid hf hj)).2 ?_
  unfold bareK at h'
  split at h'
  ·
   rename_i h2
   rw [kidT_den h1]
   exact isE_iff.1 h2.2
  ·
   exact h'
theorem bar_snoc {l : List Nd} (hb : Bar l) (hl : looseB l = true) {p : Nat} (hp : p < l.length) (hv : 1 < (at_ l p).lv) (hf : fitB l (innN l (at_ l p)) = true) : Bar (l ++ [innN l (at_ l p)]) := by
 intro i hi j hj h
 simp only [List.length_append, List.length_cons, List.length_nil] at hi
 have hd : ∀ {v k : Int}, kidB l v k = true → kidT (dens (l ++ [innN l (at_ l p)])) v k = kidT (dens l) v k := fun hk => kidT_pre (List.prefix_append _ _) hk
 rcases Nat.lt_or_ge i l.length with h1 | h1
 ·
  rw [at_app h1] at h ⊢
  rw [hd (fit_kid (loose_fit hl h1) hj)] at h
  exact hb i h1 j hj h
 ·
  have e : i = l.length := by omega
  subst e
  rw [at_last] at h ⊢
  rw [hd (fit_kid hf hj)] at h
  rw [innN_kid _ _ hj] at h ⊢
  have h' : kidT (dens l) ((at_ l p).lv - 1) (innK l (at_ l p) j) = .e := h
  unfold innK at h' ⊢
  split
  ·
   rfl
  ·
   rename_i hk0
   rw [if_neg hk0] at h'
   rcases kid_up (by omega) (fit_kid (loose_fit hl hp) hj) with e | ⟨r, e, hr, hrl⟩
   ·
    exact absurd e hk0
   ·
    rw [e, show ((r : Int) + 1).toNat - 1 = r by omega] at h' ⊢
    rw [← hrl] at h'
    exact hb r hr (3 - j) (by omega) h'
def Like (l m : List Nd) : Prop := l.length = m.length ∧ dens l = dens m ∧ (∀ i, i < l.length → (at_ l i).lv = (at_ m i).lv)
theorem like_fit {l m : List Nd} (h : Like l m) {x : Nd} (hf : fitB m x = true) : fitB l x = true := by
 have hv := fit_lv hf
 unfold fitB
 rw [Bool.and_eq_true, each_iff]
 refine ⟨decide_eq_true hv, fun i hi => ?_⟩
 have h1 := fit_kid hf hi
 by_cases h2 : x.lv = 1
 ·
  rw [h2] at h1 ⊢
  exact h1
 ·
  rcases kid_up h2 h1 with e | ⟨r, e, hr, hrl⟩
  ·
   rw [e]
   exact kidB_zero _ _ h2
  ·
   have hlen := h.1
   rw [e, kidB_in _ _ _ h2 (by omega), h.2.2 r (by omega)]
   exact decide_eq_true hrl
theorem like_snoc {l m : List Nd} (h : Like l m) (x : Nd) : Like (l ++ [x]) (m ++ [x]) := by
 obtain ⟨h1, h2, h3⟩ := h
 refine ⟨by simp [h1], by rw [dens_snoc, dens_snoc, h2], fun i hi => ?_⟩
 simp only [List.length_append, List.length_cons, List.length_nil] at hi
 rcases Nat.lt_or_ge i l.length with h4 | h4
 ·
  rw [at_app h4, at_app (by omega)]
  exact h3 i h4
 ·
  have e : i = l.length := by omega
  subst e
  rw [at_last, h1, at_last]
theorem like_den {l m : List Nd} (h : Like l m) (n : Nat) : den l n = den m n := by
 unfold den
 rw [h.2.1]
theorem like_bare {l : List Nd} (hl : looseB l = true) : Like l (bareL l) :=
 ⟨(bare_len l).symm, (bare_dens hl).1.symm, fun i hi => by rw [bare_at hi]; rfl⟩
end Go.Proofs.YtmfncapgikobkaaGreat

namespace Go.Proofs.YtmfncapgikobkaaGreat
set_option maxRecDepth 100000
set_option linter.unusedVariables false
set_option linter.unusedSimpArgs false
open Go.RowKit Nds
structure Ky (P : Nat → Prop) (w w' : World) : Prop where
 os : w'.os = w.os
 tape : w'.tape = w.tape
 output : w'.output = w.output
 size : w.heap.size ≤ w'.heap.size
 block : ∀ k, k < w.heap.size → ¬ P k → w'.heap[k]? = w.heap[k]?
theorem Ky.refl (P : Nat → Prop) (w : World) : Ky P w w := ⟨rfl, rfl, rfl, Nat.le_refl _, fun _ _ _ => rfl⟩
theorem Ky.trans {P Q : Nat → Prop} {a b c : World} (h : Ky P a b) (k : Ky Q b c) (hQ : ∀ i, i < a.heap.size → Q i → P i) : Ky P a c :=
 ⟨k.os.trans h.os, k.tape.trans h.tape, k.output.trans h.output, Nat.le_trans h.size k.size, fun i hi hn => (k.block i (Nat.lt_of_lt_of_le hi h.size) (fun hq => hn (hQ i hi hq))).trans (h.block i hi hn)⟩
theorem Ky.gb {P : Nat → Prop} {a b c : World} {r : Option Nat} (h : Ky P a b) (k : b.grownBy c r) (hr : ∀ i, i < a.heap.size → r = some i → P i) : Ky P a c :=
 ⟨k.os.trans h.os, k.tape.trans h.tape, k.output.trans h.output, Nat.le_trans h.size k.size, fun i hi hn => (k.block i (Nat.lt_of_lt_of_le hi h.size) (fun hq => hn (hr i hi hq.symm))).trans (h.block i hi hn)⟩
theorem Ky.alloc {P : Nat → Prop} {a b : World} (h : Ky P a b) (o : Obj) : Ky P a (b.alloc o) := h.gb (World.grownBy_alloc b o none) (fun _ _ e => by cases e)
theorem Ky.below {P : Nat → Prop} {a b c : World} (h : Ky P a b) (k : Below b.heap.size b c) : Ky P a c :=
 ⟨k.os.trans h.os, k.tape.trans h.tape, k.output.trans h.output, Nat.le_trans h.size k.size, fun i hi hn => (k.block i (Nat.lt_of_lt_of_le hi h.size)).trans (h.block i hi hn)⟩
theorem Ky.set {P : Nat → Prop} {a b : World} (h : Ky P a b) (p : Addr) (hp : p.block < a.heap.size → P p.block) (u : Value) : Ky P a (b.setCell p u) :=
 ⟨h.os, h.tape, h.output, by simpa [World.setCell] using h.size, fun i hi hn => (Below.heap_setCell _ _ _ _ (fun e => hn (by subst e; exact hp hi))).trans (h.block i hi hn)⟩
theorem Ky.to {P : Nat → Prop} {a b : World} (h : Ky P a b) {B : Nat} (hB : B ≤ a.heap.size) (hP : ∀ k, P k → B ≤ k) : Below B a b :=
 ⟨h.os, h.tape, h.output, h.size, fun k hk => h.block k (Nat.lt_of_lt_of_le hk hB) (fun hp => Nat.not_lt.2 (hP k hp) hk)⟩
theorem Ky.nd {P : Nat → Prop} {w w' : World} (h : Ky P w w') {b o : Nat} {x : Nd} (hx : NdAt w b o x) (hb : b < w.heap.size) (hp : ¬ P b) : NdAt w' b o x := hx.below (h.block b hb hp)
def mix (x y : Nd) (k : Nat) : Nd := ⟨x.lv, if 0 < k then y.a else x.a, if 1 < k then y.b else x.b, if 2 < k then y.c else x.c, if 3 < k then y.d else x.d⟩
theorem mix_four {x y : Nd} (h : x.lv = y.lv) : mix x y 4 = y := by
 unfold mix
 rw [h]
 rfl
theorem mix_kid (x y : Nd) (k : Nat) {i : Nat} (hi : i < 4) : (mix x y k).kid i = if i < k then y.kid i else x.kid i := by
 match i, hi with
 | 0, _ => rfl
 | 1, _ => rfl
 | 2, _ => rfl
 | 3, _ => rfl
theorem NdAt.setKid {w : World} {b : Nat} {x y : Nd} {k : Nat} (h : NdAt w b 0 (mix x y k)) (hk : k < 4) {o : Nat} (ho : o = 1 + k) {u : Int} (hu : u = y.kid k) : NdAt (w.setCell ⟨b, o, none⟩ (.int .i64 u)) b 0 (mix x y (k + 1)) := by
 subst ho
 subst hu
 obtain ⟨h0, h1, h2, h3, h4⟩ := h
 have oth : ∀ i j : Nat, i ≠ j → (w.setCell ⟨b, i, none⟩ (.int .i64 (y.kid k))).cell? ⟨b, j, none⟩ = w.cell? ⟨b, j, none⟩ := fun i j hij => World.cell?_setCell_other _ _ _ _ (fun e => hij (by cases e; rfl))
 match k, hk with
 | 0, _ => exact ⟨(oth _ _ (by omega)).trans h0, World.cell?_setCell_same _ _ _ h1, (oth _ _ (by omega)).trans h2, (oth _ _ (by omega)).trans h3, (oth _ _ (by omega)).trans h4⟩
 | 1, _ => exact ⟨(oth _ _ (by omega)).trans h0, (oth _ _ (by omega)).trans h1, World.cell?_setCell_same _ _ _ h2, (oth _ _ (by omega)).trans h3, (oth _ _ (by omega)).trans h4⟩
 | 2, _ => exact ⟨(oth _ _ (by omega)).trans h0, (oth _ _ (by omega)).trans h1, (oth _ _ (by omega)).trans h2, World.cell?_setCell_same _ _ _ h3, (oth _ _ (by omega)).trans h4⟩
 | 3, _ => exact ⟨(oth _ _ (by omega)).trans h0, (oth _ _ (by omega)).trans h1, (oth _ _ (by omega)).trans h2, (oth _ _ (by omega)).trans h3, World.cell?_setCell_same _ _ _ h4⟩
def NdBox (w : World) (g : Nat) (x : Nd) : Prop := w.heap[g]? = some (.cells #[.int .i64 x.lv, .int .i64 x.a, .int .i64 x.b, .int .i64 x.c, .int .i64 x.d] 56)
theorem NdBox.lt {w : World} {g : Nat} {x : Nd} (h : NdBox w g x) : g < w.heap.size := (Array.getElem?_eq_some_iff.1 h).1
theorem NdBox.at_ {w : World} {g : Nat} {x : Nd} (h : NdBox w g x) : NdAt w g 0 x := by
 refine ⟨?_, ?_, ?_, ?_, ?_⟩ <;> (rw [cell_of_row w g _ _ _ (0, 0) h]; rfl)
theorem NdBox.free {w : World} {g : Nat} {x : Nd} (h : NdBox w g x) (k : Nat) : w.frozen? ⟨g, k, none⟩ = false := frozen_of_row w g k _ _ h
theorem NdBox.new (w : World) (x : Nd) : NdBox (w.alloc (.cells #[.int .i64 x.lv, .int .i64 x.a, .int .i64 x.b, .int .i64 x.c, .int .i64 x.d] 56)) w.heap.size x := heap_alloc_new w _
theorem NdBox.stay {w w' : World} {g : Nat} {x : Nd} (h : NdBox w g x) (hb : w'.heap[g]? = w.heap[g]?) : NdBox w' g x := hb.trans h
theorem NdBox.setKid {w : World} {g : Nat} {x y : Nd} {k : Nat} (h : NdBox w g (mix x y k)) (hk : k < 4) {o : Nat} (ho : o = 1 + k) {u : Int} (hu : u = y.kid k) : NdBox (w.setCell ⟨g, o, none⟩ (.int .i64 u)) g (mix x y (k + 1)) := by
 subst ho
 subst hu
 refine (heap_setCell_same w g (1 + k) _ _ _ h).trans ?_
 match k, hk with
 | 0, _ => rfl
 | 1, _ => rfl
 | 2, _ => rfl
 | 3, _ => rfl
def FrBox (w : World) (g : Nat) (x : Nd) : Prop := w.heap[g]? = some (.cells #[.int .i64 x.a, .int .i64 x.b, .int .i64 x.c, .int .i64 x.d] 54)
theorem FrBox.lt {w : World} {g : Nat} {x : Nd} (h : FrBox w g x) : g < w.heap.size := (Array.getElem?_eq_some_iff.1 h).1
theorem FrBox.at_ {w : World} {g : Nat} {x : Nd} (h : FrBox w g x) : w.cell? ⟨g, 0, none⟩ = some (.int .i64 x.a) ∧ w.cell? ⟨g, 1, none⟩ = some (.int .i64 x.b) ∧ w.cell? ⟨g, 2, none⟩ = some (.int .i64 x.c) ∧ w.cell? ⟨g, 3, none⟩ = some (.int .i64 x.d) := by
 refine ⟨?_, ?_, ?_, ?_⟩ <;> (rw [cell_of_row w g _ _ _ (0, 0) h]; rfl)
theorem FrBox.free {w : World} {g : Nat} {x : Nd} (h : FrBox w g x) (k : Nat) : w.frozen? ⟨g, k, none⟩ = false := frozen_of_row w g k _ _ h
theorem FrBox.new (w : World) (x : Nd) : FrBox (w.alloc (.cells #[.int .i64 x.a, .int .i64 x.b, .int .i64 x.c, .int .i64 x.d] 54)) w.heap.size x := heap_alloc_new w _
theorem FrBox.stay {w w' : World} {g : Nat} {x : Nd} (h : FrBox w g x) (hb : w'.heap[g]? = w.heap[g]?) : FrBox w' g x := hb.trans h
theorem FrBox.cell {w : World} {g : Nat} {x : Nd} (h : FrBox w g x) {k : Nat} (hk : k < 4) : w.cell? ⟨g, k, none⟩ = some (.int .i64 (x.kid k)) := by
 rw [cell_of_row w g _ _ _ (0, 0) h]
 match k, hk with
 | 0, _ => rfl
 | 1, _ => rfl
 | 2, _ => rfl
 | 3, _ => rfl
def OwnD (w : World) (base g n : Nat) (ds : List Nat) : Prop :=
 ds.length = n ∧ w.ownsRow base 3 1 (.slice (some ⟨g, 0, none⟩) n n) n (ds.map fun k : Nat => Value.int .i64 (k : Int))
theorem OwnD.cell {w : World} {base g n : Nat} {ds : List Nat} (h : OwnD w base g n ds) {k : Nat} (hk : k < n) : w.cell? ⟨g, k, none⟩ = some (.int .i64 ((ds.getD k 0 : Nat) : Int)) := by
 have hl : k < ds.length := by have := h.1; omega
 rw [h.2.cellAt k (by omega), List.getElem?_map, List.getD_eq_getElem?_getD, List.getElem?_eq_getElem hl]
 rfl
theorem OwnD.free {w : World} {base g n : Nat} {ds : List Nat} (h : OwnD w base g n ds) (k : Nat) : w.frozen? ⟨g, k, none⟩ = false := h.2.frozenAt k
theorem OwnD.set {w : World} {base g n : Nat} {ds : List Nat} (h : OwnD w base g n ds) (k u : Nat) : OwnD (w.setCell ⟨g, k, none⟩ (.int .i64 (u : Int))) base g n (ds.set k u) := by
 refine ⟨by simpa using h.1, ?_⟩
 rw [List.map_set]
 exact (h.2.stored k _).1
theorem madeD (n : Nat) : (madeCells (Value.cells (.int .i64 0)) (n * 1)).toList = (List.replicate n 0).map (fun k : Nat => Value.int .i64 (k : Int)) := by
 rw [Nat.mul_one]
 refine List.ext_getElem (by simp [madeCells]) fun i h1 h2 => ?_
 simp [madeCells, Value.cells, Nat.mod_one]
theorem OwnD.made {w : World} {base g n : Nat} (h : w.ownsRow base 3 1 (.slice (some ⟨g, 0, none⟩) n n) n (madeCells (Value.cells (.int .i64 0)) (n * 1)).toList) : OwnD w base g n (List.replicate n 0) :=
 ⟨by simp, by rw [← madeD]; exact h⟩
theorem OwnD.lt {w : World} {base g n : Nat} {ds : List Nat} (h : OwnD w base g n ds) : base ≤ g ∧ g < w.heap.size := h.2.lt g rfl
theorem OwnD.gbr {w w' : World} {base g n : Nat} {ds : List Nat} {row : Option Nat} (h : OwnD w base g n ds) (hg : w.grownBy w' row) (hv : row ≠ some g) : OwnD w' base g n ds := ⟨h.1, h.2.kept hg (.inr (fun e => hv e.symm))⟩
theorem gb_setCell (w : World) (p : Addr) (u : Value) : w.grownBy (w.setCell p u) (some p.block) :=
 ⟨rfl, rfl, rfl, by simp [World.setCell], fun i _ hi => Below.heap_setCell _ _ _ _ (fun e => hi (by rw [e]))⟩
theorem ownN_none (w : World) (base : Nat) : OwnN w base (.slice none 0 0) [] := ⟨by simp, World.ownsRow_nil w base _ 5⟩
theorem own_dec {v : Value} {r : Option Nat} (h : ∀ k, v.ownBlock = some k → r ≠ some k) : v.ownBlock = none ∨ v.ownBlock ≠ r := by
 cases hv : v.ownBlock with
 | none => exact .inl rfl
 | some k => exact .inr (fun e => h k hv e.symm)
end Go.Proofs.YtmfncapgikobkaaGreat

namespace Go.Proofs.YtmfncapgikobkaaGreat
set_option maxRecDepth 100000
set_option linter.unusedVariables false
set_option linter.unusedSimpArgs false
open Go.RowKit Nds
set_option maxRecDepth 100000 in
set_option maxHeartbeats 1600000 in
theorem rinner_any (A : Option Addr) (c n : Nat) (l : List Nd) (p k : Nat) (w : World) (h : Ns w A c l) (hn : l.length = n) (hl : looseB l = true) (hp : p < n) (hlv : 1 < (at_ l p).lv) (hk : k < 4) :
  Calls Tryz.prog 67 #[.slice A n c, .int .i64 ((p : Int) + 1), .int .i64 (k : Int)] w fun e w' => e = .returned (.int .i64 (innK l (at_ l p) k)) ∧ w = w' := by
 have hcap := h.cap
 rw [hn] at hcap
 have hpl : p < l.length := by omega
 obtain ⟨b, off, rfl, hb, hc⟩ := h.at_ (by omega)
 have hyc := (hc p hpl).kid hk
 have hfk := fit_kid (loose_fit hl hpl) hk
 obtain ⟨R, hR⟩ : ∃ R, R = innK l (at_ l p) k := ⟨_, rfl⟩
 rw [← hR]
 obtain ⟨y, hy⟩ : ∃ y, y = (at_ l p).kid k := ⟨_, rfl⟩
 unfold innK at hR
 rw [← hy] at hR hfk hyc
 have i1 : (p : Int) < (n : Int) := by omega
 have i2 : (k : Int) < 4 := by omega
 rcases kid_up (by omega) hfk with rfl | ⟨r, rfl, hr, _⟩
 ·
  rw [if_pos rfl] at hR
  subst hR
  clear hy hfk hn hl hlv hc h
  go_enter Tryz.func67, Tryz.ntmps67
  go_wp2_with fail
  go_ret
  exact ⟨rfl, rfl⟩
 ·
  rw [if_neg (by omega), show ((r : Int) + 1).toNat - 1 = r by omega] at hR
  obtain ⟨k2, hk2⟩ : ∃ k2, k2 = 3 - k := ⟨_, rfl⟩
  have hzc := (hc r hr).kid (q := k2) (by omega)
  rw [← hk2] at hR
  rw [← hR] at hzc
  have t1 : ((r : Int) + 1 == 0) = false := beq_eq_false_iff_ne.2 (by omega)
  have e3 : (3 : Int) - (k : Int) = (k2 : Int) := by omega
  have i3 : (r : Int) < (n : Int) := by omega
  have i4 : (k2 : Int) < 4 := by omega
  have HE := Lib.hid e3
  clear hy hfk hn hl hlv hc hk2 hR h hr
  go_enter Tryz.func67, Tryz.ntmps67
  go_wp2_with fail
  go_ret
  exact ⟨rfl, rfl⟩
set_option maxRecDepth 100000 in
set_option maxHeartbeats 1600000 in
theorem rfind_any (A : Option Addr) (c n : Nat) (l : List Nd) (x : Nd) (w : World) (h : Ns w A c l) (hn : l.length = n) (hx : x.wf) :
  Calls Tryz.prog 68 #[.slice A n c, ndv x] w fun e w' => e = .returned (.int .i64 ((fnd l x : Nat) : Int)) ∧ Below w.heap.size w w' := by
 have hcap := h.cap
 rw [hn] at hcap
 have hb := (Below.refl w.heap.size w).alloc (Nat.le_refl _) (.cells #[.int .i64 x.lv, .int .i64 x.a, .int .i64 x.b, .int .i64 x.c, .int .i64 x.d] 56)
 have HB := Lib.hid hb
 have HNL := Lib.hid (h.below hb)
 have HL := Lib.hid hn
 have HWX := Lib.hid hx
 obtain ⟨R, hR⟩ : ∃ R, R = fnd l x := ⟨_, rfl⟩
 rw [← hR]
 have HR := Lib.hid hR
 have hbx := NdAt.new w x 56
 clear h hn hb hx hR
 go_enter Tryz.func68, Tryz.ntmps68
 go_wp2_with fail
 obtain ⟨f1, f2, f3, f4, f5⟩ := hbx
 generalize hg : w.heap.size = g at *
 generalize hW : w.alloc _ = W at *
 have HG := Lib.hid hg
 clear hW hg
 go_loopw [5] (fun i wr => ∃ (k nd : Nat), wr = W.drewN nd ∧ k ≤ n ∧ i = .int .i64 k ∧ ∀ j, j < k → at_ l j ≠ x) (fun i _ => n - (intOf i).toNat)
 case atStart => exact ⟨0, 0, rfl, by omega, rfl, fun j hj => by omega⟩
 case round =>
  obtain ⟨k, nd, rfl, hk, rfl, hall⟩ := hrel
  have HA := Lib.hid hall
  clear hall
  by_cases hlt : k < n
  ·
   obtain ⟨b, off, rfl, hb, hc⟩ := HNL.out.at_ (by rw [HL.out]; omega)
   obtain ⟨c1, c2, c3, c4, c5⟩ := hc k (by rw [HL.out]; exact hlt)
   have hwy := HNL.out.wf (i := k) (by rw [HL.out]; exact hlt)
   clear hc
   obtain ⟨y, hy⟩ : ∃ y, y = at_ l k := ⟨_, rfl⟩
   rw [← hy] at c1 c2 c3 c4 c5 hwy
   have HY := Lib.hid hy
   have hq := eql_node y x hwy HWX.out
   have i1 : (k : Int) < (n : Int) := by omega
   have i2 : (0 : Int) ≤ (k : Int) := by omega
   clear hy hwy
   by_cases hxy : y = x
   ·
    have HXY := Lib.hid hxy
    rw [decide_eq_true hxy] at hq
    clear hxy
    go_wp2_with fail
    go_quiet (fail)
    go_wp2_with fail
    go_ret
    refine ⟨?_, below_drewN' (by rw [HG.out]; exact HB.out) _⟩
    rw [HR.out, fnd_some (i := k) (by rw [HL.out]; exact hlt) (by rw [← HY.out]; exact HXY.out) HA.out]
    simp
   ·
    have HXY := Lib.hid hxy
    rw [decide_eq_false hxy] at hq
    clear hxy
    go_wp2_with fail
    go_quiet (fail)
    go_wp2_with fail
    go_roundw
    case rel =>
     refine ⟨k + 1, _, rfl, by omega, by go_num, fun j hj => ?_⟩
     rcases Nat.lt_or_ge j k with h1 | h1
     ·
      exact HA.out j h1
     ·
      rw [show j = k by omega, ← HY.out]; exact HXY.out
    case measure => simp [intOf]; omega
  ·
   go_wp2_with fail
   go_ret
   refine ⟨?_, below_drewN' (by rw [HG.out]; exact HB.out) _⟩
   rw [HR.out, fnd_none fun j hj => HA.out j (by rw [HL.out] at hj; omega)]
   rfl
set_option maxRecDepth 100000 in
set_option maxHeartbeats 1600000 in
theorem rsame_any (A B : Option Addr) (c d n p : Nat) (l m : List Nd) (w : World) (h : Ns w A c l) (k : Ns w B d m) (hn : l.length = n) (hp : m.length = p) :
  Calls Tryz.prog 11 #[.agg #[.slice A n c], .agg #[.slice B p d]] w fun e w' => e = .returned (.bool (decide (l = m))) ∧ Below w.heap.size w w' := by
 have hb := ((Below.refl w.heap.size w).alloc (Nat.le_refl _) (.cells #[.slice A n c] 27)).alloc (by simp) (.cells #[.slice B p d] 27)
 have HB := Lib.hid hb
 have HL := Lib.hid (h.below hb)
 have HM := Lib.hid (k.below hb)
 have HN := Lib.hid hn
 have HP := Lib.hid hp
 obtain ⟨R, hR⟩ : ∃ R, R = decide (l = m) := ⟨_, rfl⟩
 rw [← hR]
 have HR := Lib.hid hR
 clear hb h k hn hp hR
 go_enter Tryz.func11, Tryz.ntmps11
 go_wp2_with (go_at_call 34; refine (rnodes_any _ _ _ _ _ _ l m _ HL.out HM.out HN.out HP.out).mono ?_; rintro e w1 ⟨rfl, q, rfl⟩; rw [← HR.out])
 go_ret
 exact ⟨rfl, below_drewN' HB.out _⟩
theorem rloose_b (A : Option Addr) (c n : Nat) (l : List Nd) (w : World) (h : Ns w A c l) (hn : l.length = n) :
  Calls Tryz.prog 35 #[.slice A n c] w fun e w' => e = .returned (.bool (looseB l)) ∧ Below w.heap.size w w' :=
 (rloose_at A c n l w h hn).mono fun _ _ ⟨he, hw⟩ => ⟨he, drewN_below hw⟩
def okB (l : List Nd) (k : Int) : Bool := looseB l && decide (0 ≤ k ∧ k ≤ (l.length : Int))
def ofQ (l : List Nd) (k : Int) : List Nd := if okB l k = true then OfL l k.toNat else []
def ofE (l : List Nd) (k : Int) : Int := if okB l k = true then 0 else 1
def RetO (l : List Nd) (k : Int) (w : World) (e : Ending) (w' : World) : Prop :=
 ∃ A c, e = .returned (.tuple #[.agg #[.slice A (ofQ l k).length c], .int .i64 (ofE l k)]) ∧ Ns w' A c (ofQ l k) ∧ (A = none → c = 0) ∧ Below w.heap.size w w'
theorem ofQ_no {l : List Nd} {k : Int} (h : okB l k = false) : ofQ l k = [] ∧ ofE l k = 1 := by
 unfold ofQ ofE
 rw [if_neg (by rw [h]; simp), if_neg (by rw [h]; simp)]
 exact ⟨rfl, rfl⟩
theorem ofQ_yes {l : List Nd} {n : Nat} (hl : looseB l = true) (hn : n ≤ l.length) : ofQ l (n : Int) = OfL l n ∧ ofE l (n : Int) = 0 := by
 have h : okB l (n : Int) = true := by
  unfold okB
  rw [hl, decide_eq_true (by omega)]
  rfl
 unfold ofQ ofE
 rw [if_pos h, if_pos h, Int.toNat_natCast]
 exact ⟨rfl, rfl⟩
theorem okB_no {l : List Nd} {k : Int} (h : looseB l = false ∨ k < 0 ∨ (l.length : Int) < k) : okB l k = false := by
 unfold okB
 rcases h with h | h
 ·
  rw [h]
  rfl
 ·
  rw [decide_eq_false (by omega), Bool.and_false]
theorem ns_nil (w : World) : Ns w none 0 [] := ⟨by simp, Nat.le_refl _, by simp [maxLen], fun h => absurd h (Nat.lt_irrefl 0)⟩
end Go.Proofs.YtmfncapgikobkaaGreat
