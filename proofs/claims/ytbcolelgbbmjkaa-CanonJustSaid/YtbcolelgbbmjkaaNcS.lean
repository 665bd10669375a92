/-
  canon: half as wide; empty quarters struck out; plain.
-/
import Derived.Test.YtbcolelgbbmjkaaNcQ

namespace Go.Proofs.Ytbcolelgbbmjkaa
set_option linter.unusedVariables false
set_option linter.unusedSimpArgs false
open Nds
/-- The kid's own kid that touches the middle. -/
def innK (l : List Nd) (x : Nd) (k : Nat) : Int := if x.kid k = 0 then 0 else (at_ l ((x.kid k).toNat - 1)).kid (3 - k)
def innN (l : List Nd) (x : Nd) : Nd := ⟨x.lv - 1, innK l x 0, innK l x 1, innK l x 2, innK l x 3⟩
theorem innN_kid (l : List Nd) (x : Nd) {k : Nat} (hk : k < 4) : (innN l x).kid k = innK l x k := by
  match k, hk with
  | 0, _ => rfl
  | 1, _ => rfl
  | 2, _ => rfl
  | 3, _ => rfl
theorem kidT_zero (l : List Nd) (v : Int) : kidT (dens l) v 0 = .e := by
  unfold kidT
  split
  · rfl
  · exact den_zero l
theorem innK_at {l : List Nd} (hl : looseB l = true) {p : Nat} (hp : p < l.length) (hv : 1 < (at_ l p).lv) {k : Nat} (hk : k < 4) :
    kidB l ((at_ l p).lv - 1) (innK l (at_ l p) k) = true ∧ kidT (dens l) ((at_ l p).lv - 1) (innK l (at_ l p) k) = ((den l (p + 1)).q k).q (3 - k) := by
  have hf := fit_kid (loose_fit hl hp) hk
  have h1 : (at_ l p).lv ≠ 1 := by omega
  rw [den_loose hl hp, norm_q _ _ hk, kidT_den h1]
  unfold innK
  rcases kid_up h1 hf with e | ⟨r, e, hr, hrl⟩
  · rw [e, if_pos rfl, show (0 : Int).toNat = 0 from rfl, den_zero]
    exact ⟨kid_zero _ _, kidT_zero _ _⟩
  · rw [e, if_neg (by omega), show ((r : Int) + 1).toNat = r + 1 by omega, show r + 1 - 1 = r by omega, den_loose hl hr, norm_q _ _ (by omega), hrl]
    refine ⟨?_, rfl⟩
    have := fit_kid (loose_fit hl hr) (i := 3 - k) (by omega)
    rwa [hrl] at this
theorem inn_step {l : List Nd} (hl : looseB l = true) {p : Nat} (hp : p < l.length) (hv : 1 < (at_ l p).lv) (hne : den l (p + 1) ≠ .e) : fitB l (innN l (at_ l p)) = true ∧ norm (dens l) (innN l (at_ l p)) = innT (den l (p + 1)) := by
  have hlv := fit_lv (loose_fit hl hp)
  have e : (den l (p + 1)).lv = (at_ l p).lv := by
    rw [den_loose hl hp]
    exact norm_lv (by rw [← den_loose hl hp]; exact hne)
  have key := fun {k : Nat} (hk : k < 4) => innK_at hl hp hv hk
  refine ⟨?_, ?_⟩
  · unfold fitB
    rw [Bool.and_eq_true, each_iff]
    exact ⟨decide_eq_true (show 1 ≤ (at_ l p).lv - 1 ∧ (at_ l p).lv - 1 ≤ 1329 by omega), fun i hi => by rw [innN_kid _ _ hi]; exact (key hi).1⟩
  · unfold innT
    rw [e]
    show mk ((at_ l p).lv - 1) (kidT _ ((at_ l p).lv - 1) (innK l (at_ l p) 0)) (kidT _ ((at_ l p).lv - 1) (innK l (at_ l p) 1)) (kidT _ ((at_ l p).lv - 1) (innK l (at_ l p) 2)) (kidT _ ((at_ l p).lv - 1) (innK l (at_ l p) 3)) = _
    rw [(key (by omega : 0 < 4)).2, (key (by omega : 1 < 4)).2, (key (by omega : 2 < 4)).2, (key (by omega : 3 < 4)).2]
theorem hol_lv {l : List Nd} (hl : looseB l = true) {p : Nat} (hp : p < l.length) (hh : holT (den l (p + 1)) = true) : 1 < (at_ l p).lv ∧ den l (p + 1) ≠ .e := by
  have h1 := (hol_iff.1 hh).1
  have hne : den l (p + 1) ≠ .e := fun e => by rw [e] at h1; exact absurd h1 (by simp [Tr.lv])
  refine ⟨?_, hne⟩
  rwa [den_loose hl hp, norm_lv (by rw [← den_loose hl hp]; exact hne)] at h1
/-- One step of Shrink. -/
theorem shr_list {l : List Nd} (hl : looseB l = true) {p : Nat} (hp : p < l.length) (hh : holT (den l (p + 1)) = true) :
    looseB (l ++ [innN l (at_ l p)]) = true ∧ den (l ++ [innN l (at_ l p)]) (l.length + 1) = innT (den l (p + 1)) ∧ innT (den l (p + 1)) ≠ .e ∧ shrT (innT (den l (p + 1))) = shrT (den l (p + 1)) := by
  obtain ⟨hv, hne⟩ := hol_lv hl hp hh
  obtain ⟨hf, hn⟩ := inn_step hl hp hv hne
  exact ⟨loose_snoc hl hf, by rw [den_last]; exact hn, inn_ne (wf_den hl p hp) hh, (shr_step hh).symm⟩
theorem kid_in64 {l : List Nd} {v k : Int} (h : kidB l v k = true) (hl : l.length ≤ 1000000) : in64 k := by
  by_cases hv : v = 1
  · subst hv
    rw [kidB, if_pos rfl, decide_eq_true_iff] at h
    exact ⟨by omega, by omega⟩
  · rcases kid_up hv h with rfl | ⟨m, rfl, hm, _⟩
    · exact ⟨by omega, by omega⟩
    · exact ⟨by omega, by omega⟩
theorem fit_wf {l : List Nd} {x : Nd} (h : fitB l x = true) (hl : l.length ≤ 1000000) : x.wf := by
  have hv := fit_lv h
  exact ⟨⟨by omega, by omega⟩, kid_in64 (fit_kid h (i := 0) (by omega)) hl, kid_in64 (fit_kid h (i := 1) (by omega)) hl, kid_in64 (fit_kid h (i := 2) (by omega)) hl, kid_in64 (fit_kid h (i := 3) (by omega)) hl⟩
/-- Empty quarters struck out. -/
def bareK (l : List Nd) (v k : Int) : Int := if v ≠ 1 ∧ (den l k.toNat).isE = true then 0 else k
def bareN (l : List Nd) (x : Nd) : Nd := ⟨x.lv, bareK l x.lv x.a, bareK l x.lv x.b, bareK l x.lv x.c, bareK l x.lv x.d⟩
def bareL (l : List Nd) : List Nd := l.map (bareN l)
theorem bareN_kid (l : List Nd) (x : Nd) {k : Nat} (hk : k < 4) : (bareN l x).kid k = bareK l x.lv (x.kid k) := by
  match k, hk with
  | 0, _ => rfl
  | 1, _ => rfl
  | 2, _ => rfl
  | 3, _ => rfl
theorem bareK_one (l : List Nd) (k : Int) : bareK l 1 k = k := by
  unfold bareK
  rw [if_neg (fun h => h.1 rfl)]
theorem bare_one {l : List Nd} {x : Nd} (h : x.lv = 1) : bareN l x = x := by
  unfold bareN
  rw [h, bareK_one, bareK_one, bareK_one, bareK_one, ← h]
theorem bareK_zero {l : List Nd} {v k : Int} (hv : v ≠ 1) (hk : kidB l v k = true) : bareK l v k = 0 ↔ kidT (dens l) v k = .e := by
  rw [kidT_den hv, ← isE_iff]
  unfold bareK
  split
  · rename_i h
    exact ⟨fun _ => h.2, fun _ => rfl⟩
  · rename_i h
    refine ⟨fun e => ?_, fun e => absurd ⟨hv, e⟩ h⟩
    rw [e, show (0 : Int).toNat = 0 from rfl, den_zero]
    rfl
theorem bareK_kid {l m : List Nd} {v k : Int} (hk : kidB m v k = true) : kidB m v (bareK l v k) = true := by
  unfold bareK
  split
  · exact kid_zero _ _
  · exact hk
/-- All struck out: empty. -/
theorem bare_each {l : List Nd} {x : Nd} (hf : fitB l x = true) : (bareN l x).each (· == 0) = (norm (dens l) x).isE := by
  rw [norm_isE]
  refine (Bool.eq_iff_iff.2 ?_)
  rw [each_iff, each_iff]
  refine forall_congr' fun i => forall_congr' fun hi => ?_
  rw [bareN_kid _ _ hi, beq_iff_eq, isE_iff]
  by_cases h1 : x.lv = 1
  · rw [h1, bareK_one, kidT_one]
    unfold st
    split
    · exact ⟨fun _ => rfl, fun _ => by assumption⟩
    · exact ⟨fun h => by contradiction, fun h => by cases h⟩
  · exact bareK_zero h1 (fit_kid hf hi)
theorem bare_len (l : List Nd) : (bareL l).length = l.length := by
  unfold bareL
  rw [List.length_map]
theorem bare_at {l : List Nd} {i : Nat} (hi : i < l.length) : at_ (bareL l) i = bareN l (at_ l i) := by
  unfold at_ bareL
  rw [List.getElem?_map, List.getElem?_eq_getElem hi]
  rfl
theorem bare_dens {l : List Nd} (hl : looseB l = true) : dens (bareL l) = dens l ∧ looseB (bareL l) = true := by
  suffices h : ∀ k, k ≤ l.length → dens ((bareL l).take k) = dens (l.take k) ∧ looseB ((bareL l).take k) = true by
    have := h l.length (Nat.le_refl _)
    rwa [List.take_of_length_le (Nat.le_refl _), List.take_of_length_le (by rw [bare_len]; exact Nat.le_refl _)] at this
  intro k
  induction k with
  | zero => exact fun _ => ⟨rfl, rfl⟩
  | succ k ih =>
    intro hk
    obtain ⟨i1, i2⟩ := ih (by omega)
    have hf := loose_iff.1 hl k (by omega)
    have hv := fit_lv hf
    rw [take_at (l := bareL l) (by rw [bare_len]; omega), take_at (l := l) (by omega), dens_snoc, dens_snoc, i1, bare_at (by omega)]
    obtain ⟨x, hx⟩ : ∃ x, x = at_ l k := ⟨_, rfl⟩
    rw [← hx] at hf hv ⊢
    have hlk : (l.take k).length = k := by rw [List.length_take]; omega
    have hkid : ∀ i, i < 4 → kidT (dens (l.take k)) x.lv ((bareN l x).kid i) = kidT (dens (l.take k)) x.lv (x.kid i) := by
      intro i hi
      rw [bareN_kid _ _ hi]
      unfold bareK
      split
      · rename_i h
        rw [kidT_zero, kidT_den h.1]
        rcases kid_up h.1 (fit_kid hf hi) with e | ⟨r, e, hr, _⟩
        · rw [e]
          exact (den_zero _).symm
        · rw [e] at h ⊢
          rw [den_take (by omega) (by omega)]
          exact (isE_iff.1 h.2).symm
      · rfl
    have hfit : fitB ((bareL l).take k) (bareN l x) = true := by
      unfold fitB
      rw [Bool.and_eq_true, each_iff]
      refine ⟨decide_eq_true hv, fun i hi => ?_⟩
      rw [bareN_kid _ _ hi]
      refine bareK_kid ?_
      show kidB _ x.lv _ = true
      have h1 := fit_kid hf hi
      by_cases h2 : x.lv = 1
      · rw [h2] at h1 ⊢
        exact h1
      · rcases kid_up h2 h1 with e | ⟨r, e, hr, hrl⟩
        · rw [e]
          exact kidB_zero _ _ h2
        · rw [hlk] at hr
          rw [e, kidB_in _ _ _ h2 (by rw [List.length_take, bare_len]; omega), at_take hr, bare_at (by omega)]
          rw [at_take hr] at hrl
          exact decide_eq_true hrl
    refine ⟨?_, loose_snoc i2 hfit⟩
    rw [norm_congr (x := bareN l x) (y := x) rfl hkid]
/-- No quarter is empty but 0. -/
def Bar (l : List Nd) : Prop := ∀ i, i < l.length → ∀ j, j < 4 → kidT (dens l) (at_ l i).lv ((at_ l i).kid j) = .e → (at_ l i).kid j = 0
theorem st_e {k : Int} (h : st k = .e) : k = 0 := by
  unfold st at h
  split at h
  · assumption
  · cases h
theorem bare_bar {l : List Nd} (hl : looseB l = true) : Bar (bareL l) := by
  intro i hi j hj h
  rw [bare_len] at hi
  rw [(bare_dens hl).1] at h
  have hf := loose_fit hl hi
  rw [bare_at hi, bareN_kid _ _ hj] at h ⊢
  obtain ⟨x, hx⟩ : ∃ x, x = at_ l i := ⟨_, rfl⟩
  rw [← hx] at h hf ⊢
  have h' : kidT (dens l) x.lv (bareK l x.lv (x.kid j)) = .e := h
  by_cases h1 : x.lv = 1
  · rw [h1, kidT_one] at h'
    rw [h1]
    exact st_e h'
  · refine (bareK_zero h1 (fit_kid hf hj)).2 ?_
    unfold bareK at h'
    split at h'
    · rename_i h2
      rw [kidT_den h1]
      exact isE_iff.1 h2.2
    · exact h'
/-- What touches the middle, and nothing else. -/
def midN (y : Nd) (k : Nat) : Nd := ⟨0, if k = 0 then y.a else 0, if k = 1 then y.b else 0, if k = 2 then y.c else 0, if k = 3 then y.d else 0⟩
def midB (y : Nd) (k : Nat) : Bool := (List.range 4).all fun j => j == k || y.kid j == 0
def same4 (x y : Nd) : Bool := decide (x.a = y.a ∧ x.b = y.b ∧ x.c = y.c ∧ x.d = y.d)
theorem mid_same (y : Nd) {k : Nat} (hk : k < 4) : same4 (midN y k) y = midB y k := by
  unfold same4 midB
  rw [Bool.eq_iff_iff, decide_eq_true_iff]
  have z : ∀ n : Int, (0 = n) = (n = 0) := fun n => propext ⟨Eq.symm, Eq.symm⟩
  match k, hk with
  | 0, _ => simp [midN, List.range, List.range.loop, Nd.kid, z]
  | 1, _ => simp [midN, List.range, List.range.loop, Nd.kid, z]
  | 2, _ => simp [midN, List.range, List.range.loop, Nd.kid, z]
  | 3, _ => simp [midN, List.range, List.range.loop, Nd.kid, z]
/-- Quarter by quarter. -/
def quaB (l : List Nd) (x : Nd) (k : Nat) : Bool := x.kid k == 0 || midB (at_ l ((x.kid k).toNat - 1)) (3 - k)
theorem bar_hol {l : List Nd} (hb : Bar l) (hl : looseB l = true) {p : Nat} (hp : p < l.length) (hv : 1 < (at_ l p).lv) (hne : den l (p + 1) ≠ .e) : holT (den l (p + 1)) = true ↔ ∀ k, k < 4 → quaB l (at_ l p) k = true := by
  have e : (den l (p + 1)).lv = (at_ l p).lv := by
    rw [den_loose hl hp]
    exact norm_lv (by rw [← den_loose hl hp]; exact hne)
  rw [hol_iff, e]
  have key : ∀ k, k < 4 → (quaB l (at_ l p) k = true ↔ ∀ j, j < 4 → j + k ≠ 3 → ((den l (p + 1)).q k).q j = .e) := by
    intro k hk
    rw [den_loose hl hp, norm_q _ _ hk, kidT_den (by omega)]
    unfold quaB
    rcases kid_up (by omega) (fit_kid (loose_fit hl hp) hk) with e | ⟨r, e, hr, hrl⟩
    · rw [e, show (0 : Int).toNat = 0 from rfl, den_zero]
      simp [Tr.q]
    · rw [e, beq_eq_false_iff_ne.2 (show (r : Int) + 1 ≠ 0 by omega), Bool.false_or, show ((r : Int) + 1).toNat = r + 1 by omega, show r + 1 - 1 = r by omega]
      unfold midB
      rw [List.all_eq_true]
      refine ⟨fun h j hj hjk => ?_, fun h j hj => ?_⟩
      · have := h j (List.mem_range.2 hj)
        rw [Bool.or_eq_true, beq_iff_eq, beq_iff_eq] at this
        rw [den_loose hl hr, norm_q _ _ hj]
        rcases this with h2 | h2
        · omega
        · rw [h2]
          exact kidT_zero _ _
      · have hj4 := List.mem_range.1 hj
        rw [Bool.or_eq_true, beq_iff_eq, beq_iff_eq]
        by_cases hjk : j + k = 3
        · exact .inl (by omega)
        · refine .inr (hb r hr j hj4 ?_)
          have := h j hj4 hjk
          rwa [den_loose hl hr, norm_q _ _ hj4] at this
  exact ⟨fun h k hk => (key k hk).2 (h.2 k hk), fun h => ⟨hv, fun k hk => (key k hk).1 (h k hk)⟩⟩
theorem bar_snoc {l : List Nd} (hb : Bar l) (hl : looseB l = true) {p : Nat} (hp : p < l.length) (hv : 1 < (at_ l p).lv) (hf : fitB l (innN l (at_ l p)) = true) : Bar (l ++ [innN l (at_ l p)]) := by
  intro i hi j hj h
  simp only [List.length_append, List.length_cons, List.length_nil] at hi
  have hd : ∀ {v k : Int}, kidB l v k = true → kidT (dens (l ++ [innN l (at_ l p)])) v k = kidT (dens l) v k := fun hk => kidT_pre (List.prefix_append _ _) hk
  rcases Nat.lt_or_ge i l.length with h1 | h1
  · rw [at_app h1] at h ⊢
    rw [hd (fit_kid (loose_fit hl h1) hj)] at h
    exact hb i h1 j hj h
  · have e : i = l.length := by omega
    subst e
    rw [at_last] at h ⊢
    rw [hd (fit_kid hf hj)] at h
    rw [innN_kid _ _ hj] at h ⊢
    have h' : kidT (dens l) ((at_ l p).lv - 1) (innK l (at_ l p) j) = .e := h
    unfold innK at h' ⊢
    split
    · rfl
    · rename_i hk0
      rw [if_neg hk0] at h'
      rcases kid_up (by omega) (fit_kid (loose_fit hl hp) hj) with e | ⟨r, e, hr, hrl⟩
      · exact absurd e hk0
      · rw [e, show ((r : Int) + 1).toNat - 1 = r by omega] at h' ⊢
        rw [← hrl] at h'
        exact hb r hr (3 - j) (by omega) h'
/-- Two lists with the same levels, which stand for the same. -/
def Like (l m : List Nd) : Prop := l.length = m.length ∧ dens l = dens m ∧ (∀ i, i < l.length → (at_ l i).lv = (at_ m i).lv)
theorem like_fit {l m : List Nd} (h : Like l m) {x : Nd} (hf : fitB m x = true) : fitB l x = true := by
  have hv := fit_lv hf
  unfold fitB
  rw [Bool.and_eq_true, each_iff]
  refine ⟨decide_eq_true hv, fun i hi => ?_⟩
  have h1 := fit_kid hf hi
  by_cases h2 : x.lv = 1
  · rw [h2] at h1 ⊢
    exact h1
  · rcases kid_up h2 h1 with e | ⟨r, e, hr, hrl⟩
    · rw [e]
      exact kidB_zero _ _ h2
    · have hlen := h.1
      rw [e, kidB_in _ _ _ h2 (by omega), h.2.2 r (by omega)]
      exact decide_eq_true hrl
theorem like_snoc {l m : List Nd} (h : Like l m) (x : Nd) : Like (l ++ [x]) (m ++ [x]) := by
  obtain ⟨h1, h2, h3⟩ := h
  refine ⟨by simp [h1], by rw [dens_snoc, dens_snoc, h2], fun i hi => ?_⟩
  simp only [List.length_append, List.length_cons, List.length_nil] at hi
  rcases Nat.lt_or_ge i l.length with h4 | h4
  · rw [at_app h4, at_app (by omega)]
    exact h3 i h4
  · have e : i = l.length := by omega
    subst e
    rw [at_last, h1, at_last]
theorem like_den {l m : List Nd} (h : Like l m) (n : Nat) : den l n = den m n := by
  unfold den
  rw [h.2.1]
theorem like_bare {l : List Nd} (hl : looseB l = true) : Like l (bareL l) :=
  ⟨(bare_len l).symm, (bare_dens hl).1.symm, fun i hi => by rw [bare_at hi]; rfl⟩
end Go.Proofs.Ytbcolelgbbmjkaa
