/-
  canon: the one list of a tree, plain.
-/
import Derived.Test.YtbcolelgbbmjkaaNcT
import Derived.Test.YtbcolelgbbmjkaaNdsW

namespace Go.Proofs.Ytbcolelgbbmjkaa.Nds
set_option linter.unusedVariables false
set_option linter.unusedSimpArgs false
/-- The number of the first that is x among the first so many (0: none is). -/
def fndTo (out : List Nd) (x : Nd) : Nat → Nat
  | 0 => 0
  | k + 1 => if fndTo out x k = 0 then (if at_ out k = x then k + 1 else 0) else fndTo out x k
def fnd (out : List Nd) (x : Nd) : Nat := fndTo out x out.length
theorem fndTo_none {out : List Nd} {x : Nd} : ∀ k, (∀ j, j < k → at_ out j ≠ x) → fndTo out x k = 0
  | 0, _ => rfl
  | k + 1, h => by
    unfold fndTo
    rw [if_pos (fndTo_none k fun j hj => h j (by omega)), if_neg (h k (by omega))]
theorem fndTo_some {out : List Nd} {x : Nd} {i : Nat} (he : at_ out i = x) (hn : ∀ j, j < i → at_ out j ≠ x) : ∀ k, i < k → fndTo out x k = i + 1
  | 0, h => by omega
  | k + 1, h => by
    unfold fndTo
    by_cases hk : i < k
    · rw [fndTo_some he hn k hk, if_neg (by omega)]
    · have e : i = k := by omega
      subst e
      rw [if_pos (fndTo_none i hn), if_pos he]
theorem fnd_none {out : List Nd} {x : Nd} (h : ∀ j, j < out.length → at_ out j ≠ x) : fnd out x = 0 := fndTo_none _ h
theorem fnd_some {out : List Nd} {x : Nd} {i : Nat} (hi : i < out.length) (he : at_ out i = x) (hn : ∀ j, j < i → at_ out j ≠ x) : fnd out x = i + 1 := fndTo_some he hn _ hi
theorem fnd_cases (out : List Nd) (x : Nd) : (fnd out x = 0 ∧ ∀ j, j < out.length → at_ out j ≠ x) ∨ ∃ i, i < out.length ∧ at_ out i = x ∧ fnd out x = i + 1 := by
  suffices h : ∀ k, k ≤ out.length → (∀ j, j < k → at_ out j ≠ x) ∨ ∃ i, i < k ∧ at_ out i = x ∧ ∀ j, j < i → at_ out j ≠ x by
    rcases h out.length (Nat.le_refl _) with h | ⟨i, hi, he, hn⟩
    · exact .inl ⟨fnd_none h, h⟩
    · exact .inr ⟨i, hi, he, fnd_some hi he hn⟩
  intro k
  induction k with
  | zero => exact fun _ => .inl fun j hj => by omega
  | succ k ih =>
    intro hk
    rcases ih (by omega) with h | ⟨i, hi, h⟩
    · by_cases he : at_ out k = x
      · exact .inr ⟨k, by omega, he, h⟩
      · refine .inl fun j hj => ?_
        rcases Nat.lt_or_ge j k with h1 | h1
        · exact h j h1
        · rw [show j = k by omega]; exact he
    · exact .inr ⟨i, by omega, h⟩
/-- x, where it isn't there yet, behind all. -/
def add (out : List Nd) (x : Nd) : List Nd × Nat := if fnd out x = 0 then (out ++ [x], out.length + 1) else (out, fnd out x)
/-- A tree's nodes, each once, behind what is there; and its number. -/
def enc : Tr → List Nd → List Nd × Int
  | .e, out => (out, 0)
  | .s k, out => (out, k)
  | .n v a b c d, out =>
    let r0 := enc a out
    let r1 := enc b r0.1
    let r2 := enc c r1.1
    let r3 := enc d r2.1
    let r := add r3.1 ⟨v, r0.2, r1.2, r2.2, r3.2⟩
    (r.1, (r.2 : Int))
/-- Behind the first so many quarters. -/
def outK (f : Nat → Tr) (out : List Nd) : Nat → List Nd
  | 0 => out
  | k + 1 => (enc (f k) (outK f out k)).1
def numK (f : Nat → Tr) (out : List Nd) (k : Nat) : Int := (enc (f k) (outK f out k)).2
def topN (f : Nat → Tr) (out : List Nd) (v : Int) : Nd := ⟨v, numK f out 0, numK f out 1, numK f out 2, numK f out 3⟩
theorem enc_n (v : Int) (a b c d : Tr) (out : List Nd) : enc (.n v a b c d) out = ((add (outK (Tr.n v a b c d).q out 4) (topN (Tr.n v a b c d).q out v)).1, ((add (outK (Tr.n v a b c d).q out 4) (topN (Tr.n v a b c d).q out v)).2 : Int)) := rfl
theorem topN_kid (f : Nat → Tr) (out : List Nd) (v : Int) {i : Nat} (hi : i < 4) : (topN f out v).kid i = numK f out i := by
  match i, hi with
  | 0, _ => rfl
  | 1, _ => rfl
  | 2, _ => rfl
  | 3, _ => rfl
/-- A list in which no node is empty, and none twice. -/
def GoodL (out : List Nd) : Prop := looseB out = true ∧ ∀ i, i < out.length → den out (i + 1) ≠ .e ∧ ∀ j, j < i → at_ out j ≠ at_ out i
theorem good_nil : GoodL [] := ⟨rfl, fun i hi => absurd hi (Nat.not_lt_zero i)⟩
/-- k is the tree's number. -/
def NumT (out : List Nd) (t : Tr) (k : Int) : Prop := match t with
  | .e => k = 0
  | .s m => k = m
  | .n .. => 1 ≤ k ∧ k ≤ out.length ∧ den out k.toNat = t
theorem num_pre {out m : List Nd} (h : out <+: m) {t : Tr} {k : Int} (hn : NumT out t k) : NumT m t k := by
  cases t with
  | e => exact hn
  | s _ => exact hn
  | n v a b c d =>
    obtain ⟨h1, h2, h3⟩ := hn
    have := h.length_le
    exact ⟨h1, by omega, by rw [den_pre h (by omega)]; exact h3⟩
theorem num_kid {out : List Nd} (hg : GoodL out) {v k : Int} (hk : kidB out v k = true) : NumT out (kidT (dens out) v k) k := by
  by_cases hv : v = 1
  · subst hv
    rw [kidT_one]
    unfold st
    split
    · assumption
    · rfl
  · rw [kidT_den hv]
    rcases kid_up hv hk with rfl | ⟨p, rfl, hp, _⟩
    · rw [show (0 : Int).toNat = 0 from rfl, den_zero]
      rfl
    · rw [show ((p : Int) + 1).toNat = p + 1 by omega]
      rcases den_form out (p + 1) with h | ⟨v, a, b, c, d, h⟩
      · exact absurd h (hg.2 p hp).1
      · rw [h]
        exact ⟨by omega, by omega, by rw [show ((p : Int) + 1).toNat = p + 1 by omega]; exact h⟩
theorem good_fnd {out : List Nd} (hg : GoodL out) {i : Nat} (hi : i < out.length) : fnd out (at_ out i) = i + 1 := fnd_some hi rfl (hg.2 i hi).2
/-- What is there already. -/
theorem enc_memo {out : List Nd} (hg : GoodL out) : ∀ (t : Tr) (k : Int), NumT out t k → enc t out = (out, k) := by
  refine tr_ind ?_ ?_ ?_
  · intro k h
    cases h
    rfl
  · intro m k h
    cases h
    rfl
  · intro v a b c d ih k h
    obtain ⟨h1, h2, h3⟩ := h
    obtain ⟨p, rfl⟩ : ∃ p : Nat, k = (p : Int) + 1 := ⟨k.toNat - 1, by omega⟩
    have hp : p < out.length := by omega
    rw [show ((p : Int) + 1).toNat = p + 1 by omega, den_loose hg.1 hp] at h3
    have hf := loose_fit hg.1 hp
    have hv : (at_ out p).lv = v := by
      have := norm_lv (ts := dens out) (x := at_ out p) (by rw [h3]; simp)
      rw [h3] at this
      exact this.symm
    have hq : ∀ i, i < 4 → NumT out ((Tr.n v a b c d).q i) ((at_ out p).kid i) := by
      intro i hi
      rw [← h3, norm_q _ _ hi]
      exact num_kid hg (fit_kid hf hi)
    have hk : ∀ i, i ≤ 4 → outK (Tr.n v a b c d).q out i = out := by
      intro i
      induction i with
      | zero => exact fun _ => rfl
      | succ i ih2 =>
        intro hi
        show (enc _ (outK _ out i)).1 = out
        rw [ih2 (by omega), ih i (by omega) _ (hq i (by omega))]
    have hn : ∀ i, i < 4 → numK (Tr.n v a b c d).q out i = (at_ out p).kid i := by
      intro i hi
      unfold numK
      rw [hk i (by omega), ih i hi _ (hq i hi)]
    have ht : topN (Tr.n v a b c d).q out v = at_ out p := by
      unfold topN
      rw [hn 0 (by omega), hn 1 (by omega), hn 2 (by omega), hn 3 (by omega), ← hv]
      rfl
    rw [enc_n, hk 4 (by omega), ht]
    unfold add
    rw [good_fnd hg hp, if_neg (by omega)]
    simp
theorem loose_snoc {l : List Nd} {x : Nd} (h : looseB l = true) (hx : fitB l x = true) : looseB (l ++ [x]) = true := by
  rw [loose_iff] at h ⊢
  intro i hi
  simp only [List.length_append, List.length_cons, List.length_nil] at hi
  rcases Nat.lt_or_ge i l.length with h1 | h1
  · have e1 : at_ (l ++ [x]) i = at_ l i := by
      unfold at_
      rw [List.getElem?_append_left h1]
    rw [e1, List.take_append_of_le_length (by omega)]
    exact h i h1
  · have e : i = l.length := by omega
    subst e
    have e1 : at_ (l ++ [x]) l.length = x := by
      unfold at_
      rw [List.getElem?_append_right (Nat.le_refl _), Nat.sub_self]
      rfl
    rw [e1, List.take_left]
    exact hx
theorem at_app {l m : List Nd} {i : Nat} (h : i < l.length) : at_ (l ++ m) i = at_ l i := by
  unfold at_
  rw [List.getElem?_append_left h]
theorem at_last (l : List Nd) (x : Nd) : at_ (l ++ [x]) l.length = x := by
  unfold at_
  rw [List.getElem?_append_right (Nat.le_refl _), Nat.sub_self]
  rfl
theorem at_pre {l m : List Nd} (hp : l <+: m) {i : Nat} (h : i < l.length) : at_ m i = at_ l i := by
  obtain ⟨r, rfl⟩ := hp
  exact at_app h
/-- A tree's number as a kid. -/
theorem kid_num {out : List Nd} (hl : looseB out = true) {v : Int} (hv : 1 ≤ v) {t : Tr} {k : Int} (hw : wfT (v - 1) t) (hn : NumT out t k) : kidB out v k = true ∧ kidT (dens out) v k = t := by
  cases t with
  | e =>
    have hk : k = 0 := hn
    subst hk
    refine ⟨?_, ?_⟩
    · unfold kidB
      split
      · exact decide_eq_true (by omega)
      · exact decide_eq_true (.inl rfl)
    · unfold kidT
      split
      · rfl
      · exact den_zero out
  | s m =>
    have hk : k = m := hn
    subst hk
    obtain ⟨h1, h2, h3⟩ := hw
    have e : v = 1 := by omega
    subst e
    refine ⟨?_, ?_⟩
    · unfold kidB
      rw [if_pos rfl]
      exact decide_eq_true (by omega)
    · rw [kidT_one]
      unfold st
      rw [if_neg (by omega)]
  | n u a b c d =>
    obtain ⟨h1, h2, h3⟩ := hn
    obtain ⟨p, rfl⟩ : ∃ p : Nat, k = (p : Int) + 1 := ⟨k.toNat - 1, by omega⟩
    rw [show ((p : Int) + 1).toNat = p + 1 by omega] at h3
    obtain ⟨hu, hu1, _⟩ := hw
    have hne : v ≠ 1 := by omega
    have hlv : (at_ out p).lv = v - 1 := by
      rw [den_loose hl (by omega)] at h3
      have := norm_lv (ts := dens out) (x := at_ out p) (by rw [h3]; simp)
      rw [h3] at this
      rw [← this]
      exact hu.symm
    refine ⟨?_, ?_⟩
    · unfold kidB
      rw [if_neg hne]
      exact decide_eq_true (.inr ⟨by omega, by omega, by rw [show ((p : Int) + 1).toNat - 1 = p by omega]; exact hlv⟩)
    · rw [kidT_den hne, show ((p : Int) + 1).toNat = p + 1 by omega]
      exact h3
/-- What enc leaves. -/
structure EncT (v : Int) (t : Tr) (out : List Nd) (r : List Nd × Int) : Prop where
  good : GoodL r.1
  pre : out <+: r.1
  num : NumT r.1 t r.2
  lvs : ∀ i, out.length ≤ i → i < r.1.length → (at_ r.1 i).lv ≤ v
/-- What all four quarters leave. -/
structure EncK (v : Int) (f : Nat → Tr) (out : List Nd) (k : Nat) : Prop where
  good : GoodL (outK f out k)
  pre : out <+: outK f out k
  num : ∀ i, i < k → NumT (outK f out k) (f i) (numK f out i)
  lvs : ∀ i, out.length ≤ i → i < (outK f out k).length → (at_ (outK f out k) i).lv ≤ v
theorem encK_of {v : Int} {f : Nat → Tr} {out : List Nd} (hg : GoodL out) (h : ∀ i, i < 4 → ∀ o, GoodL o → EncT v (f i) o (enc (f i) o)) : ∀ k, k ≤ 4 → EncK v f out k := by
  intro k
  induction k with
  | zero => exact fun _ => ⟨hg, List.prefix_refl _, fun i hi => absurd hi (Nat.not_lt_zero i), fun i h1 h2 => absurd h2 (Nat.not_lt.2 h1)⟩
  | succ k ih =>
    intro hk
    have i1 := ih (by omega)
    have i2 := h k (by omega) _ i1.good
    refine ⟨i2.good, i1.pre.trans i2.pre, fun i hi => ?_, fun i h1 h2 => ?_⟩
    · rcases Nat.lt_or_ge i k with h1 | h1
      · exact num_pre i2.pre (i1.num i h1)
      · have e : i = k := by omega
        subst e
        exact i2.num
    · rcases Nat.lt_or_ge i (outK f out k).length with h3 | h3
      · rw [show at_ (outK f out (k + 1)) i = at_ (outK f out k) i from at_pre i2.pre h3]
        exact i1.lvs i h1 h3
      · exact i2.lvs i h3 h2
/-- The node at the top. -/
theorem top_of {v : Int} {a b c d : Tr} {out : List Nd} (hw : wfT v (.n v a b c d)) (h : EncK (v - 1) (Tr.n v a b c d).q out 4) :
    fitB (outK (Tr.n v a b c d).q out 4) (topN (Tr.n v a b c d).q out v) = true ∧ norm (dens (outK (Tr.n v a b c d).q out 4)) (topN (Tr.n v a b c d).q out v) = .n v a b c d := by
  have hv : 1 ≤ v ∧ v ≤ 1329 := ⟨hw.2.1, hw.2.2.1⟩
  have key : ∀ i, i < 4 → kidB (outK (Tr.n v a b c d).q out 4) v (numK (Tr.n v a b c d).q out i) = true ∧ kidT (dens (outK (Tr.n v a b c d).q out 4)) v (numK (Tr.n v a b c d).q out i) = (Tr.n v a b c d).q i :=
    fun i hi => kid_num h.good.1 hv.1 (wf_q hw i) (h.num i hi)
  refine ⟨?_, ?_⟩
  · unfold fitB
    rw [Bool.and_eq_true, each_iff]
    exact ⟨decide_eq_true hv, fun i hi => by rw [topN_kid _ _ _ hi]; exact (key i hi).1⟩
  · show mk v (kidT _ v (numK _ out 0)) (kidT _ v (numK _ out 1)) (kidT _ v (numK _ out 2)) (kidT _ v (numK _ out 3)) = _
    rw [(key 0 (by omega)).2, (key 1 (by omega)).2, (key 2 (by omega)).2, (key 3 (by omega)).2]
    have hall : allE a b c d = false := hw.2.2.2.2.2.2.2
    unfold mk
    show (if allE a b c d = true then Tr.e else Tr.n v a b c d) = _
    rw [if_neg (by rw [hall]; simp)]
theorem good_snoc {out : List Nd} {x : Nd} (hg : GoodL out) (hx : fitB out x = true) (hn : norm (dens out) x ≠ .e) (hf : ∀ j, j < out.length → at_ out j ≠ x) : GoodL (out ++ [x]) := by
  refine ⟨loose_snoc hg.1 hx, fun i hi => ?_⟩
  simp only [List.length_append, List.length_cons, List.length_nil] at hi
  rcases Nat.lt_or_ge i out.length with h1 | h1
  · rw [den_app (by omega), at_app h1]
    exact ⟨(hg.2 i h1).1, fun j hj => by rw [at_app (by omega)]; exact (hg.2 i h1).2 j hj⟩
  · have e : i = out.length := by omega
    subst e
    rw [den_last, at_last]
    exact ⟨hn, fun j hj => by rw [at_app hj]; exact hf j hj⟩
theorem enc_spec : ∀ (t : Tr) (v : Int) (out : List Nd), wfT v t → GoodL out → EncT v t out (enc t out) := by
  refine tr_ind ?_ ?_ ?_
  · exact fun v out _ hg => ⟨hg, List.prefix_refl _, rfl, fun i h1 h2 => absurd h2 (Nat.not_lt.2 h1)⟩
  · exact fun k v out _ hg => ⟨hg, List.prefix_refl _, rfl, fun i h1 h2 => absurd h2 (Nat.not_lt.2 h1)⟩
  · intro u a b c d ih v out hw hg
    have hu : v = u := hw.1
    subst hu
    have hk := encK_of (v := v - 1) (f := (Tr.n v a b c d).q) hg (fun i hi o ho => ih i hi (v - 1) o (wf_q hw i) ho) 4 (Nat.le_refl _)
    obtain ⟨hfit, hnorm⟩ := top_of hw hk
    rw [enc_n]
    obtain ⟨o4, ho4⟩ : ∃ o4, o4 = outK (Tr.n v a b c d).q out 4 := ⟨_, rfl⟩
    obtain ⟨x, hx⟩ : ∃ x, x = topN (Tr.n v a b c d).q out v := ⟨_, rfl⟩
    have hxv : x.lv = v := by rw [hx]; rfl
    obtain ⟨kg, kp, _, kl⟩ := hk
    rw [← ho4] at kg kp kl hfit hnorm ⊢
    rw [← hx] at hfit hnorm ⊢
    have hne : norm (dens o4) x ≠ .e := by rw [hnorm]; simp
    unfold add
    rcases fnd_cases o4 x with ⟨e, hf⟩ | ⟨i, hi, he, e⟩
    · rw [e, if_pos rfl]
      refine ⟨good_snoc kg hfit hne hf, kp.trans (List.prefix_append _ _), ?_, fun i h1 h2 => ?_⟩
      · refine ⟨by simp; omega, by simp, ?_⟩
        show den (o4 ++ [x]) ((o4.length + 1 : Nat) : Int).toNat = _
        rw [Int.toNat_natCast, den_last, hnorm]
      · simp only [List.length_append, List.length_cons, List.length_nil] at h2
        show (at_ (o4 ++ [x]) i).lv ≤ v
        rcases Nat.lt_or_ge i o4.length with h3 | h3
        · rw [at_app h3]
          have := kl i h1 h3
          omega
        · rw [show i = o4.length by omega, at_last, hxv]
          exact Int.le_refl _
    · rw [e, if_neg (by omega)]
      refine ⟨kg, kp, ?_, fun i h1 h2 => Int.le_trans (kl i h1 h2) (by omega)⟩
      refine ⟨by simp; omega, by simp; omega, ?_⟩
      show den o4 ((i + 1 : Nat) : Int).toNat = _
      rw [Int.toNat_natCast, den_loose kg.1 hi, he, hnorm]
/-- The order in which the nodes come to an end. -/
theorem end_enc {L : List Nd} : ∀ (t : Tr) (v : Int) (out : List Nd) (m : Nat), wfT v t → GoodL out → (enc t out).1 <+: L → v ≤ m → t ≠ .e → (∀ k, t ≠ .s k) →
    endL L m (enc t out).2.toNat (upto out.length) = upto (enc t out).1.length := by
  refine tr_ind ?_ ?_ ?_
  · exact fun v out m _ _ _ _ h _ => absurd rfl h
  · exact fun k v out m _ _ _ _ _ h => absurd rfl (h k)
  · intro u a b c d ih v out m hw hg hpre hm _ _
    have hu : v = u := hw.1
    subst hu
    have hspec := enc_spec (.n v a b c d) v out hw hg
    obtain ⟨n1, n2, n3⟩ := hspec.num
    by_cases hk : (enc (.n v a b c d) out).2 ≤ out.length
    · have hnum : NumT out (.n v a b c d) (enc (.n v a b c d) out).2 := ⟨n1, hk, by rw [← den_pre hspec.pre (by omega)]; exact n3⟩
      have hmem := enc_memo hg _ _ hnum
      have e1 : (enc (.n v a b c d) out).1 = out := by rw [hmem]
      rw [e1, endL_in (mem_upto.2 ⟨by omega, by omega⟩)]
    · have hkk := encK_of (v := v - 1) (f := (Tr.n v a b c d).q) hg (fun i hi o ho => enc_spec _ (v - 1) o (wf_q hw i) ho)
      have h4 := hkk 4 (Nat.le_refl _)
      have hv1 : 1 ≤ v := hw.2.1
      rw [enc_n] at hk hpre ⊢
      obtain ⟨o4, ho4⟩ : ∃ o4, o4 = outK (Tr.n v a b c d).q out 4 := ⟨_, rfl⟩
      obtain ⟨x, hx⟩ : ∃ x, x = topN (Tr.n v a b c d).q out v := ⟨_, rfl⟩
      have hxv : x.lv = v := by rw [hx]; rfl
      rw [← ho4, ← hx] at hk hpre ⊢
      have hadd : add o4 x = (o4 ++ [x], o4.length + 1) := by
        rcases fnd_cases o4 x with ⟨e, hf⟩ | ⟨i, hi, he, e⟩
        · unfold add
          rw [if_pos e]
        · exfalso
          unfold add at hk
          rw [if_neg (by omega), e] at hk
          simp only at hk
          have := h4.lvs i (by omega) (by rw [← ho4]; exact hi)
          rw [← ho4, he, hxv] at this
          omega
      rw [hadd] at hk hpre ⊢
      simp only at hk hpre ⊢
      rw [Int.toNat_natCast]
      obtain ⟨m, rfl⟩ : ∃ m', m = m' + 1 := ⟨m - 1, by omega⟩
      have hnot : o4.length + 1 ∉ upto out.length := fun h => by
        have := (mem_upto.1 h).2
        omega
      have hatx : at_ L (o4.length + 1 - 1) = x := by
        rw [show o4.length + 1 - 1 = o4.length by omega, at_pre hpre (by simp), at_last]
      unfold endL
      rw [if_neg hnot, hatx, hxv]
      have hlen : (o4 ++ [x]).length = o4.length + 1 := by simp
      rw [hlen, ← upto_snoc]
      congr 1
      have hpre4 : o4 <+: L := (List.prefix_append _ _).trans hpre
      by_cases hlv : 1 < v
      · rw [if_pos hlv]
        have key : ∀ j, j ≤ 4 → foldL (endL L m) x (upto out.length) j = upto (outK (Tr.n v a b c d).q out j).length := by
          intro j
          induction j with
          | zero => exact fun _ => rfl
          | succ j ihj =>
            intro hj
            show stepL (endL L m) (foldL (endL L m) x (upto out.length) j) (x.kid j) = _
            rw [ihj (by omega), hx, topN_kid _ _ _ (by omega)]
            have hkj := hkk j (by omega)
            have hkj1 := hkk (j + 1) hj
            have hwj := wf_q hw j
            show stepL _ _ (enc ((Tr.n v a b c d).q j) (outK (Tr.n v a b c d).q out j)).2 = upto (enc ((Tr.n v a b c d).q j) (outK (Tr.n v a b c d).q out j)).1.length
            have hpj : (enc ((Tr.n v a b c d).q j) (outK (Tr.n v a b c d).q out j)).1 <+: L := by
              have key2 : ∀ i, i ≤ 4 → ∀ j, j ≤ i → outK (Tr.n v a b c d).q out j <+: outK (Tr.n v a b c d).q out i := by
                intro i
                induction i with
                | zero => intro _ j hj; rw [show j = 0 by omega]; exact List.prefix_refl _
                | succ i ih2 =>
                  intro hi j hj
                  rcases Nat.lt_or_ge j (i + 1) with h1 | h1
                  · exact (ih2 (by omega) j (by omega)).trans (enc_spec _ (v - 1) _ (wf_q hw i) (hkk i (by omega)).good).pre
                  · rw [show j = i + 1 by omega]; exact List.prefix_refl _
              have := key2 4 (Nat.le_refl _) (j + 1) hj
              rw [← ho4] at this
              exact this.trans hpre4
            have hsp := enc_spec ((Tr.n v a b c d).q j) (v - 1) _ hwj hkj.good
            have hih := ih j (by omega) (v - 1) _ m hwj hkj.good hpj (by omega)
            cases ht : (Tr.n v a b c d).q j with
            | e =>
              unfold stepL
              rw [if_neg (by simp [enc])]
              rfl
            | s k =>
              rw [ht] at hwj
              have := hwj.1
              omega
            | n u2 a2 b2 c2 d2 =>
              rw [ht] at hih hsp
              have h1 := hsp.num.1
              unfold stepL
              rw [if_pos (by omega)]
              exact hih (by simp) (by simp)
        rw [key 4 (Nat.le_refl _), ← ho4]
      · rw [if_neg hlv]
        have hv : v = 1 := by omega
        have key : ∀ j, j ≤ 4 → outK (Tr.n v a b c d).q out j = out := by
          intro j
          induction j with
          | zero => exact fun _ => rfl
          | succ j ihj =>
            intro hj
            show (enc ((Tr.n v a b c d).q j) (outK (Tr.n v a b c d).q out j)).1 = out
            rw [ihj (by omega)]
            have hwj := wf_q hw j
            cases ht : (Tr.n v a b c d).q j with
            | e => rfl
            | s k => rfl
            | n u2 a2 b2 c2 d2 =>
              rw [ht] at hwj
              obtain ⟨h1, h2, _⟩ := hwj
              omega
        rw [ho4, key 4 (Nat.le_refl _)]
end Go.Proofs.Ytbcolelgbbmjkaa.Nds
