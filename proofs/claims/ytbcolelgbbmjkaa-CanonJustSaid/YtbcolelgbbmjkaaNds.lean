/-
  node: lists of nodes, plain.
-/


namespace Go.Proofs.Ytbcolelgbbmjkaa.Nds
set_option linter.unusedVariables false
set_option linter.unusedSimpArgs false
/-- A node. -/
structure Nd where
  lv : Int
  a : Int
  b : Int
  c : Int
  d : Int
theorem Nd.ext' {x y : Nd} (h1 : x.lv = y.lv) (h2 : x.a = y.a) (h3 : x.b = y.b) (h4 : x.c = y.c) (h5 : x.d = y.d) : x = y := by
  cases x; cases y; simp_all
instance : DecidableEq Nd := fun x y =>
  if h : x.lv = y.lv ∧ x.a = y.a ∧ x.b = y.b ∧ x.c = y.c ∧ x.d = y.d then .isTrue (Nd.ext' h.1 h.2.1 h.2.2.1 h.2.2.2.1 h.2.2.2.2)
  else .isFalse fun e => h (by subst e; exact ⟨rfl, rfl, rfl, rfl, rfl⟩)
def nd0 : Nd := ⟨0, 0, 0, 0, 0⟩
def Nd.kid (x : Nd) (i : Nat) : Int := match i with | 0 => x.a | 1 => x.b | 2 => x.c | _ => x.d
/-- A property of all four kids. -/
def Nd.each (x : Nd) (p : Int → Bool) : Bool := p x.a && p x.b && p x.c && p x.d
theorem each_iff {x : Nd} {p : Int → Bool} : x.each p = true ↔ ∀ i, i < 4 → p (x.kid i) = true := by
  unfold Nd.each
  simp only [Bool.and_eq_true]
  constructor
  · rintro ⟨⟨⟨h0, h1⟩, h2⟩, h3⟩ i hi
    match i, hi with
    | 0, _ => exact h0
    | 1, _ => exact h1
    | 2, _ => exact h2
    | 3, _ => exact h3
  · intro h
    exact ⟨⟨⟨h 0 (by omega), h 1 (by omega)⟩, h 2 (by omega)⟩, h 3 (by omega)⟩
def in64 (n : Int) : Prop := -9223372036854775808 ≤ n ∧ n ≤ 9223372036854775807
def Nd.wf (x : Nd) : Prop := in64 x.lv ∧ in64 x.a ∧ in64 x.b ∧ in64 x.c ∧ in64 x.d
theorem Nd.wf.kid {x : Nd} (h : x.wf) (i : Nat) : in64 (x.kid i) := by
  unfold Nd.kid
  split
  · exact h.2.1
  · exact h.2.2.1
  · exact h.2.2.2.1
  · exact h.2.2.2.2
/-- The i-th of a list (from 0 on). -/
def at_ (l : List Nd) (i : Nat) : Nd := l[i]?.getD nd0
theorem at_take {l : List Nd} {k i : Nat} (h : i < k) : at_ (l.take k) i = at_ l i := by
  unfold at_
  rw [List.getElem?_take, if_pos h]
theorem at_mem {l : List Nd} {i : Nat} (h : i < l.length) : at_ l i ∈ l := by
  unfold at_
  rw [List.getElem?_eq_getElem h]
  exact List.getElem_mem h
theorem take_at {l : List Nd} {i : Nat} (h : i < l.length) : l.take (i + 1) = l.take i ++ [at_ l i] := by
  unfold at_
  rw [List.getElem?_eq_getElem h, List.take_succ_eq_append_getElem h]
  rfl
/-- May k be a kid of a node of level v, behind l? -/
def kidB (l : List Nd) (v k : Int) : Bool :=
  if v = 1 then decide (0 ≤ k ∧ k ≤ 255) else decide (k = 0 ∨ (0 < k ∧ k ≤ l.length ∧ (at_ l (k.toNat - 1)).lv = v - 1))
def fitB (l : List Nd) (x : Nd) : Bool := decide (1 ≤ x.lv ∧ x.lv ≤ 1329) && x.each (kidB l x.lv)
def looseB (l : List Nd) : Bool := (List.range l.length).all fun i => fitB (l.take i) (at_ l i)
/-- No node whose kids are all 0, and none twice. -/
def distB (l : List Nd) : Bool := (List.range l.length).all fun i => !(at_ l i).each (· == 0) && !decide (at_ l i ∈ l.take i)
theorem dist_iff {l : List Nd} : distB l = true ↔ ∀ i, i < l.length → (at_ l i).each (· == 0) = false ∧ at_ l i ∉ l.take i := by
  unfold distB
  rw [List.all_eq_true]
  refine ⟨fun h i hi => ?_, fun h i hi => ?_⟩
  · have := h i (List.mem_range.2 hi)
    simp only [Bool.and_eq_true, Bool.not_eq_true', decide_eq_false_iff_not] at this
    exact this
  · have := h i (List.mem_range.1 hi)
    simp only [Bool.and_eq_true, Bool.not_eq_true', decide_eq_false_iff_not]
    exact this
end Go.Proofs.Ytbcolelgbbmjkaa.Nds
