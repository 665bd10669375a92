/-
  canon: quads, plain: what may be, what is just one, what stands behind another list.
-/
import Derived.Test.YtbcolelgbbmjkaaNcE
import Derived.Test.YtbcolelgbbmjkaaNdsQ

namespace Go.Proofs.Ytbcolelgbbmjkaa
set_option linter.unusedVariables false
set_option linter.unusedSimpArgs false
open Nds
theorem nodeE_norm {l : List Nd} {y : Nd} (hf : fitB l y = true) : nodeE ((dens l).map Tr.isE) y = (norm (dens l) y).isE := by
  have hv := fit_lv hf
  rw [norm_isE]
  unfold nodeE
  refine each_congr fun i hi => ?_
  have hk := fit_kid hf hi
  by_cases h1 : y.lv = 1
  · rw [h1, kidT_one]
    unfold st
    by_cases h0 : y.kid i = 0
    · rw [h0]; rfl
    · rw [if_neg h0, beq_eq_false_iff_ne.2 h0]; rfl
  · rw [kidT_den h1, decide_eq_true (show 1 < y.lv by omega), Bool.true_and]
    rcases kid_up h1 hk with e | ⟨p, e, hp, _⟩
    · rw [e, show (0 : Int).toNat = 0 from rfl, den_zero]; rfl
    · rw [e, beq_eq_false_iff_ne.2 (show (p : Int) + 1 ≠ 0 by omega), Bool.false_or, show ((p : Int) + 1).toNat = p + 1 by omega]
      unfold den
      have hlt : p + 1 < (dens l).length := by rw [dens_len]; omega
      rw [List.getD_eq_getElem?_getD, List.getD_eq_getElem?_getD, List.getElem?_map, List.getElem?_eq_getElem hlt]
      rfl
theorem emps_dens {l : List Nd} (h : looseB l = true) : emps l = (dens l).map Tr.isE := by
  suffices hk : ∀ k, k ≤ l.length → emps (l.take k) = (dens (l.take k)).map Tr.isE by
    have := hk l.length (Nat.le_refl _)
    rwa [List.take_of_length_le (Nat.le_refl _)] at this
  intro k
  induction k with
  | zero => intro _; rfl
  | succ k ih =>
    intro hk
    rw [take_at (by omega), emps_snoc, dens_snoc, ih (by omega), List.map_append, nodeE_norm (loose_iff.1 h k (by omega))]
    rfl
theorem empB_den {l : List Nd} (h : looseB l = true) {n : Nat} (hn : n ≤ l.length) : empB l n = (den l n).isE := by
  unfold empB den
  have hlt : n < (dens l).length := by rw [dens_len]; omega
  rw [emps_dens h, List.getD_eq_getElem?_getD, List.getD_eq_getElem?_getD, List.getElem?_map, List.getElem?_eq_getElem hlt]
  rfl
theorem nodeEmp_norm {l : List Nd} (h : looseB l = true) {y : Nd} (hf : fitB l y = true) : nodeEmp l y = (norm (dens l) y).isE := by
  unfold nodeEmp
  rw [emps_dens h]
  exact nodeE_norm hf
theorem hollow_den {l : List Nd} (h : looseB l = true) {p : Nat} (hp : p < l.length) (hne : den l (p + 1) ≠ .e) : hollowB l (p + 1) = holT (den l (p + 1)) := by
  have hf := loose_fit h hp
  have hd := den_loose h hp
  have hl : (den l (p + 1)).lv = (at_ l p).lv := by rw [hd]; exact norm_lv (by rw [← hd]; exact hne)
  have hq : ∀ i, i < 4 → (den l (p + 1)).q i = kidT (dens l) (at_ l p).lv ((at_ l p).kid i) := fun i hi => by rw [hd]; exact norm_q _ _ hi
  rw [Bool.eq_iff_iff, hol_iff]
  unfold hollowB
  rw [Bool.and_eq_true, decide_eq_true_iff, List.all_eq_true, hl, show p + 1 - 1 = p by omega]
  have key : ∀ i, i < 4 → 1 < (at_ l p).lv → ((decide ((at_ l p).kid i = 0) || nodeEmp l (rim (at_ l (((at_ l p).kid i).toNat - 1)) i)) = true ↔ ∀ j, j < 4 → j + i ≠ 3 → ((den l (p + 1)).q i).q j = .e) := by
    intro i hi hlv
    rw [hq i hi]
    have h1 : (at_ l p).lv ≠ 1 := by omega
    rw [kidT_den h1]
    rcases kid_up h1 (fit_kid hf hi) with e | ⟨r, e, hr, hrl⟩
    · rw [e, show (0 : Int).toNat = 0 from rfl, den_zero]
      simp [Tr.q]
    · rw [e, decide_eq_false (show ¬ (r : Int) + 1 = 0 by omega), Bool.false_or, show ((r : Int) + 1).toNat = r + 1 by omega, show r + 1 - 1 = r by omega]
      have hfr := loose_fit h hr
      rw [nodeEmp_norm h (rim_fit hfr i), den_loose h hr, isE_iff, norm_isE_iff]
      constructor
      · intro hh j hj hji
        rw [norm_q _ _ hj]
        have := hh j hj
        rwa [rim_lv, rim_at hi hj, if_neg hji] at this
      · intro hh j hj
        rw [rim_lv, rim_at hi hj]
        split
        · unfold kidT
          split
          · rfl
          · exact den_zero l
        · rename_i hji
          have := hh j hj hji
          rwa [norm_q _ _ hj] at this
  constructor
  · rintro ⟨⟨_, h2⟩, h3⟩
    exact ⟨by omega, fun i hi => (key i hi (by omega)).1 (h3 i (List.mem_range.2 hi))⟩
  · rintro ⟨h1, h2⟩
    exact ⟨⟨by omega, by omega⟩, fun i hi => (key i (List.mem_range.1 hi) h1).2 (h2 i (List.mem_range.1 hi))⟩
/-- A node's quad. -/
def OfL (l : List Nd) (n : Nat) : List Nd := (enc (shrT (den l n)) []).1
theorem wf_denn {l : List Nd} (h : looseB l = true) {n : Nat} (hn : n ≤ l.length) : ∃ v, wfT v (den l n) := by
  cases n with
  | zero => rw [den_zero]; exact ⟨0, trivial⟩
  | succ p => exact ⟨_, wf_den h p (by omega)⟩
theorem den_not_s {l : List Nd} {n : Nat} {k : Int} : den l n ≠ .s k := by
  intro e
  rcases den_form l n with h | ⟨v, a, b, c, d, h⟩
  · rw [h] at e; cases e
  · rw [h] at e; cases e
/-- The list of a tree that is whole. -/
theorem enc_root {v : Int} {t : Tr} (hw : wfT v t) (hne : t ≠ .e) (hs : ∀ k, t ≠ .s k) : (enc t []).2 = ((enc t []).1.length : Int) ∧ 0 < (enc t []).1.length ∧ den (enc t []).1 (enc t []).1.length = t := by
  have hsp := enc_spec t v [] hw good_nil
  cases t with
  | e => exact absurd rfl hne
  | s k => exact absurd rfl (hs k)
  | n u a b c d =>
    have hend := end_enc (L := (enc (.n u a b c d) []).1) (.n u a b c d) v [] 1329 hw good_nil (List.prefix_refl _) (by obtain ⟨rfl, _, h, _⟩ := hw; exact h) (by simp) (by simp)
    obtain ⟨h1, h2, h3⟩ := hsp.num
    -- the root comes last: its number is the greatest
    have hv : v = u := hw.1
    subst hv
    rw [enc_n] at h1 h2 h3 ⊢
    have h4 := encK_of (v := v - 1) (f := (Tr.n v a b c d).q) good_nil (fun i hi o ho => enc_spec _ (v - 1) o (wf_q hw i) ho) 4 (Nat.le_refl _)
    obtain ⟨o4, ho4⟩ : ∃ o4, o4 = outK (Tr.n v a b c d).q [] 4 := ⟨_, rfl⟩
    obtain ⟨x, hx⟩ : ∃ x, x = topN (Tr.n v a b c d).q [] v := ⟨_, rfl⟩
    have hxv : x.lv = v := by rw [hx]; rfl
    rw [← ho4, ← hx] at h1 h2 h3 ⊢
    rcases fnd_cases o4 x with ⟨e, hf⟩ | ⟨i, hi, he, e⟩
    · have hadd : add o4 x = (o4 ++ [x], o4.length + 1) := by
        unfold add
        rw [if_pos e]
      rw [hadd] at h1 h2 h3 ⊢
      simp only [Int.toNat_natCast] at h3
      refine ⟨by simp, by simp, ?_⟩
      simp only [List.length_append, List.length_cons, List.length_nil]
      exact h3
    · exfalso
      have := h4.lvs i (Nat.zero_le _) (by rw [← ho4]; exact hi)
      rw [← ho4, he, hxv] at this
      omega
theorem quad_of_tree {v : Int} {t : Tr} (hw : wfT v t) (hs : ∀ k, t ≠ .s k) (hh : holT t = false) : quadB (enc t []).1 = true := by
  by_cases hne : t = .e
  · subst hne
    rfl
  · obtain ⟨hr, h0, hd⟩ := enc_root hw hne hs
    have hsp := enc_spec t v [] hw good_nil
    have hend := end_enc (L := (enc t []).1) t v [] 1329 hw good_nil (List.prefix_refl _) (by
      cases t with
      | e => exact absurd rfl hne
      | s k => exact absurd rfl (hs k)
      | n u a b c d => obtain ⟨rfl, _, h, _⟩ := hw; exact h) hne hs
    rw [hr, Int.toNat_natCast] at hend
    obtain ⟨q, hq⟩ : ∃ q, q = (enc t []).1 := ⟨_, rfl⟩
    have hg := hsp.good
    rw [← hq] at h0 hd hend hg ⊢
    have hqn : q ≠ [] := fun e => by rw [e] at h0; simp at h0
    obtain ⟨p, hp⟩ : ∃ p, q.length = p + 1 := ⟨q.length - 1, by omega⟩
    refine (quad_iff hqn hg.1).2 ⟨?_, fun i hi => ⟨?_, ?_⟩, hend⟩
    · rw [hp] at hd ⊢
      rw [hollow_den hg.1 (by omega) (by rw [hd]; exact hne), hd]
      exact hh
    · rw [empB_den hg.1 (by omega)]
      exact isE_no.2 (hg.2 i hi).1
    · exact at_not_take hi fun j hj e => (hg.2 i hi).2 j hj e.symm
theorem shr_not_s {v : Int} {t : Tr} (hw : wfT v t) (hs : ∀ k, t ≠ .s k) : ∀ k, shrT t ≠ .s k := by
  by_cases hh : holT t = true
  · intro k e
    -- what is left is a node or nothing
    have key : ∀ (m : Nat) (t : Tr), (∀ k, t ≠ .s k) → ∀ k, shrF m t ≠ .s k := by
      intro m
      induction m with
      | zero => exact fun t h => h
      | succ m ih =>
        intro t h
        unfold shrF
        split
        · refine ih _ fun k e => ?_
          unfold innT mk at e
          split at e <;> cases e
        · exact h
    exact key _ t hs k e
  · rw [shr_done (by simpa using hh)]
    exact hs
theorem ofL_tree {l : List Nd} (h : looseB l = true) {n : Nat} (hn : n ≤ l.length) : ∃ v, wfT v (shrT (den l n)) ∧ (∀ k, shrT (den l n) ≠ .s k) ∧ holT (shrT (den l n)) = false := by
  obtain ⟨v, hw⟩ := wf_denn h hn
  obtain ⟨u, hu⟩ := shr_wf hw
  exact ⟨u, hu, shr_not_s hw (fun k => den_not_s), shr_stop hw⟩
/-- It may be. -/
theorem ofL_quad {l : List Nd} (h : looseB l = true) {n : Nat} (hn : n ≤ l.length) : quadB (OfL l n) = true := by
  obtain ⟨v, h1, h2, h3⟩ := ofL_tree h hn
  exact quad_of_tree h1 h2 h3
/-- A quad is its own root's. -/
theorem ofL_self {l : List Nd} (h : looseB l = true) {n : Nat} (hn : n ≤ l.length) : OfL (OfL l n) (OfL l n).length = OfL l n := by
  obtain ⟨v, h1, h2, h3⟩ := ofL_tree h hn
  by_cases he : shrT (den l n) = .e
  · unfold OfL
    rw [he]
    show (enc (shrT (den [] 0)) []).1 = []
    rw [den_zero, shr_e]
    rfl
  · obtain ⟨_, _, hd⟩ := enc_root h1 he h2
    show (enc (shrT (den (enc (shrT (den l n)) []).1 (enc (shrT (den l n)) []).1.length)) []).1 = _
    rw [hd, shr_done h3]
    rfl
/-- A node, its numbers so many more. -/
def shiftK (v : Int) (s : Nat) (k : Int) : Int := if 1 < v ∧ 0 < k then k + s else k
def shiftN (s : Nat) (x : Nd) : Nd := ⟨x.lv, shiftK x.lv s x.a, shiftK x.lv s x.b, shiftK x.lv s x.c, shiftK x.lv s x.d⟩
theorem shiftN_kid (s : Nat) (x : Nd) {i : Nat} (hi : i < 4) : (shiftN s x).kid i = shiftK x.lv s (x.kid i) := by
  match i, hi with
  | 0, _ => rfl
  | 1, _ => rfl
  | 2, _ => rfl
  | 3, _ => rfl
/-- A list with another one behind it. -/
def nestL (l m : List Nd) : List Nd := l ++ m.map (shiftN l.length)
theorem at_map {f : Nd → Nd} {l m : List Nd} {p : Nat} (hp : p < m.length) : at_ (l ++ m.map f) (l.length + p) = f (at_ m p) := by
  unfold at_
  rw [List.getElem?_append_right (by omega), show l.length + p - l.length = p by omega, List.getElem?_map, List.getElem?_eq_getElem hp]
  rfl
theorem nest_step {l m : List Nd} (hl : looseB l = true) (hm : looseB m = true) : ∀ k, k ≤ m.length → looseB (nestL l (m.take k)) = true ∧ ∀ p, p < k → den (nestL l (m.take k)) (l.length + p + 1) = den m (p + 1) := by
  intro k
  induction k with
  | zero =>
    intro _
    refine ⟨?_, fun p hp => by omega⟩
    show looseB (l ++ []) = true
    rw [List.append_nil]
    exact hl
  | succ k ih =>
    intro hk
    obtain ⟨i1, i2⟩ := ih (by omega)
    have htk : (m.take k).length = k := by rw [List.length_take]; omega
    have hlen : (nestL l (m.take k)).length = l.length + k := by
      unfold nestL
      rw [List.length_append, List.length_map, htk]
    have hs : nestL l (m.take (k + 1)) = nestL l (m.take k) ++ [shiftN l.length (at_ m k)] := by
      unfold nestL
      rw [take_at (by omega), List.map_append, ← List.append_assoc]
      rfl
    have hf := loose_iff.1 hm k (by omega)
    have hv := fit_lv hf
    obtain ⟨x, hx⟩ : ∃ x, x = at_ m k := ⟨_, rfl⟩
    rw [hs]
    rw [← hx] at hf hv ⊢
    obtain ⟨T, hT⟩ : ∃ T, T = nestL l (m.take k) := ⟨_, rfl⟩
    have hat : ∀ p, p < k → at_ T (l.length + p) = shiftN l.length (at_ m p) := fun p hp => by
      rw [hT]
      unfold nestL
      rw [at_map (by omega), at_take hp]
    rw [← hT] at i1 i2 hlen ⊢
    have key : ∀ i, i < 4 → kidB T x.lv ((shiftN l.length x).kid i) = true ∧ kidT (dens T) x.lv ((shiftN l.length x).kid i) = kidT (dens m) x.lv (x.kid i) := by
      intro i hi
      have hkf := fit_kid hf hi
      rw [shiftN_kid _ _ hi]
      unfold shiftK
      by_cases h1 : x.lv = 1
      · rw [if_neg (by omega)]
        rw [h1] at hkf ⊢
        exact ⟨hkf, rfl⟩
      · rcases kid_up h1 hkf with e | ⟨p, e, hp, hpl⟩
        · rw [e, if_neg (by omega), kidT_den h1, kidT_den h1, show (0 : Int).toNat = 0 from rfl, den_zero, den_zero]
          exact ⟨kidB_zero _ _ h1, rfl⟩
        · have hpk : p < k := by rw [htk] at hp; exact hp
          rw [e, if_pos (by omega), kidT_den h1, kidT_den h1, show ((p : Int) + 1 + (l.length : Int)).toNat = l.length + p + 1 by omega, show ((p : Int) + 1).toNat = p + 1 by omega, i2 p hpk]
          refine ⟨?_, rfl⟩
          have e2 : (p : Int) + 1 + (l.length : Int) = ((l.length + p : Nat) : Int) + 1 := by omega
          rw [e2, kidB_in _ _ _ h1 (by omega), hat p hpk]
          rw [at_take hpk] at hpl
          exact decide_eq_true hpl
    have hfit : fitB T (shiftN l.length x) = true := by
      unfold fitB
      rw [Bool.and_eq_true, each_iff]
      exact ⟨decide_eq_true hv, fun i hi => (key i hi).1⟩
    refine ⟨loose_snoc i1 hfit, fun p hp => ?_⟩
    rcases Nat.lt_or_ge p k with h1 | h1
    · rw [den_app (by omega)]
      exact i2 p h1
    · have e : p = k := by omega
      subst e
      rw [← hlen, den_last, den_loose hm (by omega), ← hx]
      exact norm_congr rfl fun i hi => (key i hi).2
theorem nest_loose {l m : List Nd} (hl : looseB l = true) (hm : looseB m = true) : looseB (nestL l m) = true := by
  have := (nest_step hl hm m.length (Nat.le_refl _)).1
  rwa [List.take_of_length_le (Nat.le_refl _)] at this
theorem nest_den {l m : List Nd} (hl : looseB l = true) (hm : looseB m = true) {n : Nat} (hn : n ≤ m.length) (h0 : 0 < n) : den (nestL l m) (l.length + n) = den m n := by
  have := (nest_step hl hm m.length (Nat.le_refl _)).2 (n - 1) (by omega)
  rw [List.take_of_length_le (Nat.le_refl _)] at this
  rwa [show l.length + (n - 1) + 1 = l.length + n by omega, show n - 1 + 1 = n by omega] at this
theorem nest_len (l m : List Nd) : (nestL l m).length = l.length + m.length := by
  unfold nestL
  rw [List.length_append, List.length_map]
theorem nest_of {l m : List Nd} (hl : looseB l = true) (hm : looseB m = true) {n : Nat} (hn : n ≤ m.length) : OfL (nestL l m) (if 0 < n then l.length + n else 0) = OfL m n := by
  unfold OfL
  split
  · rw [nest_den hl hm hn (by assumption)]
  · rw [show n = 0 by omega, den_zero, den_zero]
/- How many nodes a quad has. -/
theorem num_at {out : List Nd} (hg : GoodL out) {i : Nat} (hi : i < out.length) : NumT out (den out (i + 1)) ((i : Int) + 1) := by
  rcases den_form out (i + 1) with h | ⟨v, a, b, c, d, h⟩
  · exact absurd h (hg.2 i hi).1
  · rw [h]
    exact ⟨by omega, by omega, by rw [show ((i : Int) + 1).toNat = i + 1 by omega]; exact h⟩
theorem good_inj {out : List Nd} (hg : GoodL out) {i j : Nat} (hi : i < out.length) (hj : j < out.length) (h : den out (i + 1) = den out (j + 1)) : i = j := by
  have h1 := enc_memo hg _ _ (num_at hg hi)
  have h2 := enc_memo hg _ _ (num_at hg hj)
  rw [h, h2] at h1
  have := congrArg Prod.snd h1
  simp only at this
  omega
/-- What its nodes stand for nodes of l stand for. -/
def SubT (l out : List Nd) : Prop := ∀ i, i < out.length → ∃ j, 0 < j ∧ j ≤ l.length ∧ den l j = den out (i + 1)
theorem sub_len {l out : List Nd} (hg : GoodL out) (hs : SubT l out) : out.length ≤ l.length := by
  have key : ∀ k, k ≤ out.length → ∃ js : List Nat, js.length = k ∧ js.Nodup ∧ ∀ v ∈ js, (0 < v ∧ v ≤ l.length) ∧ ∃ i, i < k ∧ den l v = den out (i + 1) := by
    intro k
    induction k with
    | zero => exact fun _ => ⟨[], rfl, List.nodup_nil, fun v hv => by cases hv⟩
    | succ k ih =>
      intro hk
      obtain ⟨js, h1, h2, h3⟩ := ih (by omega)
      obtain ⟨j, j0, j1, j2⟩ := hs k (by omega)
      refine ⟨j :: js, by simp [h1], List.nodup_cons.2 ⟨fun hm => ?_, h2⟩, fun v hv => ?_⟩
      · obtain ⟨_, i, hi, he⟩ := h3 j hm
        have := good_inj hg (by omega) (by omega) (he.symm.trans j2)
        omega
      · rcases List.mem_cons.1 hv with rfl | hv
        · exact ⟨⟨j0, j1⟩, k, by omega, j2⟩
        · obtain ⟨a, i, hi, he⟩ := h3 v hv
          exact ⟨a, i, by omega, he⟩
  obtain ⟨js, h1, h2, h3⟩ := key out.length (Nat.le_refl _)
  rw [← h1]
  exact nodup_le l.length js h2 fun v hv => (h3 v hv).1
/-- What a walk over l keeps. -/
def InvT (l out : List Nd) : Prop := GoodL out ∧ SubT l out
theorem inv_nil (l : List Nd) : InvT l [] := ⟨good_nil, fun i hi => absurd hi (Nat.not_lt_zero i)⟩
theorem InvT.len {l out : List Nd} (h : InvT l out) : out.length ≤ l.length := sub_len h.1 h.2
/-- What the kids of a node of l stand for. -/
def kT (l : List Nd) (x : Nd) (i : Nat) : Tr := kidT (dens l) x.lv (x.kid i)
theorem outK_congr {f g : Nat → Tr} {out : List Nd} : ∀ k, (∀ i, i < k → f i = g i) → outK f out k = outK g out k
  | 0, _ => rfl
  | k + 1, h => by
    show (enc (f k) (outK f out k)).1 = (enc (g k) (outK g out k)).1
    rw [outK_congr k fun i hi => h i (by omega), h k (by omega)]
theorem numK_congr {f g : Nat → Tr} {out : List Nd} {k : Nat} (h : ∀ i, i ≤ k → f i = g i) : numK f out k = numK g out k := by
  unfold numK
  rw [outK_congr k fun i hi => h i (by omega), h k (Nat.le_refl _)]
theorem topN_congr {f g : Nat → Tr} {out : List Nd} {v : Int} (h : ∀ i, i < 4 → f i = g i) : topN f out v = topN g out v := by
  unfold topN
  rw [numK_congr (k := 0) fun i hi => h i (by omega), numK_congr (k := 1) fun i hi => h i (by omega), numK_congr (k := 2) fun i hi => h i (by omega), numK_congr (k := 3) fun i hi => h i (by omega)]
theorem outK_e {f : Nat → Tr} {out : List Nd} : ∀ k, (∀ i, i < k → f i = .e) → outK f out k = out
  | 0, _ => rfl
  | k + 1, h => by
    show (enc (f k) (outK f out k)).1 = out
    rw [outK_e k fun i hi => h i (by omega), h k (by omega)]
    rfl
theorem numK_e {f : Nat → Tr} {out : List Nd} {k : Nat} (h : f k = .e) : numK f out k = 0 := by
  unfold numK
  rw [h]
  rfl
theorem enc_st (k : Int) (out : List Nd) : enc (st k) out = (out, k) := by
  unfold st
  split
  · rename_i h
    rw [h]
    rfl
  · rfl
/-- Of level 1: as it is. -/
theorem kT_one {l : List Nd} {x : Nd} (h : x.lv = 1) (out : List Nd) : ∀ k, outK (kT l x) out k = out
  | 0 => rfl
  | k + 1 => by
    show (enc (kT l x k) (outK (kT l x) out k)).1 = out
    rw [kT_one h out k]
    unfold kT
    rw [h, kidT_one, enc_st]
theorem top_one {l : List Nd} {x : Nd} (h : x.lv = 1) (out : List Nd) : topN (kT l x) out x.lv = x := by
  have key : ∀ i, i < 4 → numK (kT l x) out i = x.kid i := by
    intro i hi
    unfold numK
    rw [kT_one h out i]
    unfold kT
    rw [h, kidT_one, enc_st]
  unfold topN
  rw [key 0 (by omega), key 1 (by omega), key 2 (by omega), key 3 (by omega)]
  rfl
theorem enc_visit {l : List Nd} (h : looseB l = true) {p : Nat} (hp : p < l.length) (out : List Nd) : enc (den l (p + 1)) out =
    if (den l (p + 1)).isE = true then (out, 0) else ((add (outK (kT l (at_ l p)) out 4) (topN (kT l (at_ l p)) out (at_ l p).lv)).1, ((add (outK (kT l (at_ l p)) out 4) (topN (kT l (at_ l p)) out (at_ l p).lv)).2 : Int)) := by
  by_cases he : den l (p + 1) = .e
  · rw [if_pos (isE_iff.2 he), he]
    rfl
  · rw [if_neg (fun e => he (isE_iff.1 e))]
    have hd := den_loose h hp
    have hq : ∀ i, i < 4 → (den l (p + 1)).q i = kT l (at_ l p) i := fun i hi => by rw [hd]; exact norm_q _ _ hi
    have hl : (den l (p + 1)).lv = (at_ l p).lv := by rw [hd]; exact norm_lv (by rw [← hd]; exact he)
    rcases den_form l (p + 1) with h1 | ⟨v, a, b, c, d, h1⟩
    · exact absurd h1 he
    · rw [h1] at hq hl ⊢
      have hv : v = (at_ l p).lv := hl
      rw [enc_n, outK_congr 4 hq, topN_congr hq, hv]
theorem kT_cases {l : List Nd} {x : Nd} (hx : fitB l x = true) {i : Nat} (hi : i < 4) : (∃ k, kT l x i = st k) ∨ ∃ j, j ≤ l.length ∧ kT l x i = den l j ∧ x.kid i = j ∧ x.lv ≠ 1 := by
  have hk := fit_kid hx hi
  unfold kT
  by_cases h1 : x.lv = 1
  · rw [h1, kidT_one]
    exact .inl ⟨_, rfl⟩
  · rw [kidT_den h1]
    rcases kid_up h1 hk with e | ⟨q, e, hq, _⟩
    · exact .inr ⟨0, Nat.zero_le _, by rw [e]; rfl, by rw [e]; rfl, h1⟩
    · exact .inr ⟨q + 1, by omega, by rw [e, show ((q : Int) + 1).toNat = q + 1 by omega], by omega, h1⟩
theorem kT_wf {l : List Nd} (h : looseB l = true) {p : Nat} (hp : p < l.length) {i : Nat} (hi : i < 4) : wfT ((at_ l p).lv - 1) (kT l (at_ l p) i) := by
  have hw := wf_q (wf_den h p hp) i
  rwa [den_loose h hp, norm_q _ _ hi] at hw
theorem sub_app {l out : List Nd} {x : Nd} (hs : SubT l out) (hx : ∃ j, 0 < j ∧ j ≤ l.length ∧ den l j = norm (dens out) x) : SubT l (out ++ [x]) := by
  intro i hi
  simp only [List.length_append, List.length_cons, List.length_nil] at hi
  rcases Nat.lt_or_ge i out.length with h1 | h1
  · rw [den_app (by omega)]
    exact hs i h1
  · rw [show i = out.length by omega, den_last]
    exact hx
theorem inv_enc {l : List Nd} (h : looseB l = true) : ∀ (n : Nat) (out : List Nd), n ≤ l.length → InvT l out → InvT l (enc (den l n) out).1 := by
  intro n
  induction n using Nat.strongRecOn with
  | _ n ih =>
    intro out hn hi
    by_cases he : den l n = .e
    · rw [he]
      exact hi
    · obtain ⟨p, rfl⟩ : ∃ p, n = p + 1 := ⟨n - 1, by have : n ≠ 0 := fun e => he (by rw [e]; exact den_zero l); omega⟩
      have hp : p < l.length := by omega
      have hw := wf_den h p hp
      refine ⟨(enc_spec _ _ out hw hi.1).good, ?_⟩
      have hkk : ∀ k, k ≤ 4 → InvT l (outK (kT l (at_ l p)) out k) := by
        intro k
        induction k with
        | zero => exact fun _ => hi
        | succ k ih2 =>
          intro hk
          show InvT l (enc (kT l (at_ l p) k) (outK (kT l (at_ l p)) out k)).1
          have hf := loose_iff.1 h p hp
          have i1 := ih2 (by omega)
          rcases kT_cases (fit_mono hf) (i := k) (by omega) with ⟨s, hs⟩ | ⟨j, hj, hs, hkj, h1⟩
          · rw [hs, enc_st]
            exact i1
          · rw [hs]
            refine ih j ?_ _ hj i1
            rcases kid_up h1 (fit_kid hf (i := k) (by omega)) with e | ⟨q, e, hq, _⟩
            · omega
            · have := List.length_take_le p l
              omega
      have h4 := hkk 4 (Nat.le_refl _)
      have hd := den_loose h hp
      have hq : ∀ i, i < 4 → (den l (p + 1)).q i = kT l (at_ l p) i := fun i hi => by rw [hd]; exact norm_q _ _ hi
      have hl : (den l (p + 1)).lv = (at_ l p).lv := by rw [hd]; exact norm_lv (by rw [← hd]; exact he)
      rw [enc_visit h hp, if_neg (fun e => he (isE_iff.1 e))]
      unfold add
      split
      · refine sub_app h4.2 ⟨p + 1, by omega, hn, ?_⟩
        rcases den_form l (p + 1) with h1 | ⟨v, a, b, c, d, h1⟩
        · exact absurd h1 he
        · rw [h1] at hq hl hw ⊢
          have hv : v = (at_ l p).lv := hl
          rw [← hv] at hw
          have hK := encK_of (v := v - 1) (f := (Tr.n v a b c d).q) hi.1 (fun i hi o ho => enc_spec _ (v - 1) o (wf_q hw i) ho) 4 (Nat.le_refl _)
          have ht := (top_of hw hK).2
          rw [outK_congr 4 hq, topN_congr hq, hv] at ht
          rw [← hv] at ht ⊢
          exact ht.symm
      · exact h4.2
theorem inv_outK {l : List Nd} (h : looseB l = true) {p : Nat} (hp : p < l.length) {out : List Nd} (hi : InvT l out) : ∀ k, k ≤ 4 → InvT l (outK (kT l (at_ l p)) out k) := by
  intro k
  induction k with
  | zero => exact fun _ => hi
  | succ k ih =>
    intro hk
    show InvT l (enc (kT l (at_ l p) k) (outK (kT l (at_ l p)) out k)).1
    rcases kT_cases (loose_fit h hp) (i := k) (by omega) with ⟨s, hs⟩ | ⟨j, hj, hs, _⟩
    · rw [hs, enc_st]
      exact ih (by omega)
    · rw [hs]
      exact inv_enc h j _ hj (ih (by omega))
theorem outK_pre {l : List Nd} (h : looseB l = true) {p : Nat} (hp : p < l.length) {out : List Nd} (hi : InvT l out) : ∀ k, k ≤ 4 → out <+: outK (kT l (at_ l p)) out k := by
  intro k
  induction k with
  | zero => exact fun _ => List.prefix_refl _
  | succ k ih =>
    intro hk
    exact (ih (by omega)).trans (enc_spec _ _ _ (kT_wf h hp (by omega)) (inv_outK h hp hi k (by omega)).1).pre
/-- Its kids are all 0 where it is empty, and there alone. -/
theorem top_each {l : List Nd} (h : looseB l = true) {p : Nat} (hp : p < l.length) {out : List Nd} (hi : InvT l out) : (topN (kT l (at_ l p)) out (at_ l p).lv).each (· == 0) = (den l (p + 1)).isE := by
  rw [Bool.eq_iff_iff, isE_iff, each_iff, den_loose h hp, norm_isE_iff]
  have key : ∀ i, i < 4 → ((numK (kT l (at_ l p)) out i == 0) = true ↔ kT l (at_ l p) i = .e) := by
    intro i hi4
    rw [beq_iff_eq]
    have hw := kT_wf h hp hi4
    have hs := (enc_spec _ _ _ hw (inv_outK h hp hi i (by omega)).1).num
    refine ⟨fun e => ?_, fun e => numK_e e⟩
    have e2 : (enc (kT l (at_ l p) i) (outK (kT l (at_ l p)) out i)).2 = 0 := e
    rw [e2] at hs
    cases ht : kT l (at_ l p) i with
    | e => rfl
    | s m =>
      rw [ht] at hs hw
      have h1 : (0 : Int) = m := hs
      obtain ⟨_, h2, _⟩ := hw
      omega
    | n v a b c d =>
      rw [ht] at hs
      have := hs.1
      omega
  refine ⟨fun hh i hi4 => (key i hi4).1 ?_, fun hh i hi4 => ?_⟩
  · have := hh i hi4
    rwa [topN_kid _ _ _ hi4] at this
  · rw [topN_kid _ _ _ hi4]
    exact (key i hi4).2 (hh i hi4)
end Go.Proofs.Ytbcolelgbbmjkaa
