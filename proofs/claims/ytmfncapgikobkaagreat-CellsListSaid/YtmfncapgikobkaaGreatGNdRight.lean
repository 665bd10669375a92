/-
  node: lists of nodes, plain.
  node: empty nodes, plain.
  node: walks through a list of nodes, plain.
  node: slices of nodes in memory.
  node: fits, Loose; the reference's Loose.
  node: maps of nodes that the call has made.
  node: empty, Empty.
  node: Empty, Hollow.
  node: Right, Level, Same; the reference's Nodes.
-/
import Derived.Test.YtmfncapgikobkaaGreatRows
import Derived.WalkKit
import Derived.WalkSpells
import Derived.WalkLawsBesides
import Derived.Deep.Draws
import Derived.Lib.Hide
import Derived.Deep.QuietTactic
import Derived.BigQuiet
import Derived.LoopTactic
import Derived.StillTailTactics
import Derived.Deep.RegionHeld3
import Derived.Maps.Own
import Derived.DeepKeys4
import Derived.Laws.StructEq

namespace Go.Proofs.YtmfncapgikobkaaGreat.Nds
set_option maxRecDepth 100000
set_option linter.unusedVariables false
set_option linter.unusedSimpArgs false
structure Nd where
 lv : Int
 a : Int
 b : Int
 c : Int
 d : Int
theorem Nd.ext' {x y : Nd} (h1 : x.lv = y.lv) (h2 : x.a = y.a) (h3 : x.b = y.b) (h4 : x.c = y.c) (h5 : x.d = y.d) : x = y := by
 cases x; cases y; simp_all
instance : DecidableEq Nd := fun x y =>
 if h : x.lv = y.lv ∧ x.a = y.a ∧ x.b = y.b ∧ x.c = y.c ∧ x.d = y.d then .isTrue (Nd.ext' h.1 h.2.1 h.2.2.1 h.2.2.2.1 h.2.2.2.2)
 else .isFalse fun e => h (by subst e; exact ⟨rfl, rfl, rfl, rfl, rfl⟩)
def nd0 : Nd := ⟨0, 0, 0, 0, 0⟩
def Nd.kid (x : Nd) (i : Nat) : Int := match i with | 0 => x.a | 1 => x.b | 2 => x.c | _ => x.d
def Nd.each (x : Nd) (p : Int → Bool) : Bool := p x.a && p x.b && p x.c && p x.d
theorem each_iff {x : Nd} {p : Int → Bool} : x.each p = true ↔ ∀ i, i < 4 → p (x.kid i) = true := by
 unfold Nd.each
 simp only [Bool.and_eq_true]
 constructor
 ·
  rintro ⟨⟨⟨h0, h1⟩, h2⟩, h3⟩ i hi
  match i, hi with
  | 0, _ => exact h0
  | 1, _ => exact h1
  | 2, _ => exact h2
  | 3, _ => exact h3
 ·
  intro h
  exact ⟨⟨⟨h 0 (by omega), h 1 (by omega)⟩, h 2 (by omega)⟩, h 3 (by omega)⟩
def in64 (n : Int) : Prop := -9223372036854775808 ≤ n ∧ n ≤ 9223372036854775807
def Nd.wf (x : Nd) : Prop := in64 x.lv ∧ in64 x.a ∧ in64 x.b ∧ in64 x.c ∧ in64 x.d
theorem Nd.wf.kid {x : Nd} (h : x.wf) (i : Nat) : in64 (x.kid i) := by
 unfold Nd.kid
 split
 ·
  exact h.2.1
 ·
  exact h.2.2.1
 ·
  exact h.2.2.2.1
 ·
  exact h.2.2.2.2
def at_ (l : List Nd) (i : Nat) : Nd := l[i]?.getD nd0
theorem at_take {l : List Nd} {k i : Nat} (h : i < k) : at_ (l.take k) i = at_ l i := by
 unfold at_
 rw [List.getElem?_take, if_pos h]
theorem at_mem {l : List Nd} {i : Nat} (h : i < l.length) : at_ l i ∈ l := by
 unfold at_
 rw [List.getElem?_eq_getElem h]
 exact List.getElem_mem h
theorem take_at {l : List Nd} {i : Nat} (h : i < l.length) : l.take (i + 1) = l.take i ++ [at_ l i] := by
 unfold at_
 rw [List.getElem?_eq_getElem h, List.take_succ_eq_append_getElem h]
 rfl
def kidB (l : List Nd) (v k : Int) : Bool :=
 if v = 1 then decide (0 ≤ k ∧ k ≤ 255) else decide (k = 0 ∨ (0 < k ∧ k ≤ l.length ∧ (at_ l (k.toNat - 1)).lv = v - 1))
def fitB (l : List Nd) (x : Nd) : Bool := decide (1 ≤ x.lv ∧ x.lv ≤ 1329) && x.each (kidB l x.lv)
def looseB (l : List Nd) : Bool := (List.range l.length).all fun i => fitB (l.take i) (at_ l i)
def distB (l : List Nd) : Bool := (List.range l.length).all fun i => !(at_ l i).each (· == 0) && !decide (at_ l i ∈ l.take i)
theorem dist_iff {l : List Nd} : distB l = true ↔ ∀ i, i < l.length → (at_ l i).each (· == 0) = false ∧ at_ l i ∉ l.take i := by
 unfold distB
 rw [List.all_eq_true]
 refine ⟨fun h i hi => ?_, fun h i hi => ?_⟩
 ·
  have := h i (List.mem_range.2 hi)
  simp only [Bool.and_eq_true, Bool.not_eq_true', decide_eq_false_iff_not] at this
  exact this
 ·
  have := h i (List.mem_range.1 hi)
  simp only [Bool.and_eq_true, Bool.not_eq_true', decide_eq_false_iff_not]
  exact this
end Go.Proofs.YtmfncapgikobkaaGreat.Nds

namespace Go.Proofs.YtmfncapgikobkaaGreat.Nds
set_option maxRecDepth 100000
set_option linter.unusedVariables false
set_option linter.unusedSimpArgs false
theorem each_congr {x : Nd} {p q : Int → Bool} (h : ∀ i, i < 4 → p (x.kid i) = q (x.kid i)) : x.each p = x.each q := by
 have h0 : p x.a = q x.a := h 0 (by omega)
 have h1 : p x.b = q x.b := h 1 (by omega)
 have h2 : p x.c = q x.c := h 2 (by omega)
 have h3 : p x.d = q x.d := h 3 (by omega)
 unfold Nd.each
 rw [h0, h1, h2, h3]
theorem each_no {x : Nd} {p : Int → Bool} {i : Nat} (hi : i < 4) (h : p (x.kid i) = false) : x.each p = false := by
 cases hq : x.each p
 ·
  rfl
 ·
  have := each_iff.1 hq i hi
  rw [h] at this
  cases this
def nodeE (es : List Bool) (x : Nd) : Bool := x.each fun c => c == 0 || (decide (1 < x.lv) && es.getD c.toNat false)
def emps (l : List Nd) : List Bool := l.foldl (fun es x => es ++ [nodeE es x]) [true]
def empB (l : List Nd) (n : Nat) : Bool := (emps l).getD n false
def nodeEmp (l : List Nd) (x : Nd) : Bool := nodeE (emps l) x
theorem emps_snoc (l : List Nd) (x : Nd) : emps (l ++ [x]) = emps l ++ [nodeE (emps l) x] := by
 unfold emps
 rw [List.foldl_append]
 rfl
theorem emps_len (l : List Nd) : (emps l).length = l.length + 1 := by
 suffices h : ∀ k, k ≤ l.length → (emps (l.take k)).length = k + 1 by
  have := h l.length (Nat.le_refl _)
  rwa [List.take_of_length_le (Nat.le_refl _)] at this
 intro k
 induction k with
 | zero => intro _; rfl
 | succ k ih =>
  intro hk
  rw [take_at (by omega), emps_snoc, List.length_append, ih (by omega)]
  rfl
theorem emps_take (l : List Nd) : ∀ k, k ≤ l.length → emps (l.take k) = (emps l).take (k + 1) := by
 suffices h : ∀ d k, k + d = l.length → emps (l.take k) = (emps l).take (k + 1) from fun k hk => h (l.length - k) k (by omega)
 intro d
 induction d with
 | zero =>
  intro k hk
  rw [List.take_of_length_le (by omega), List.take_of_length_le (by rw [emps_len]; omega)]
 | succ d ih =>
  intro k hk
  have h := ih (k + 1) (by omega)
  rw [take_at (by omega), emps_snoc] at h
  have hl : (emps (l.take k)).length = k + 1 := by rw [emps_len, List.length_take]; omega
  have := congrArg (List.take (k + 1)) h
  rw [List.take_append_of_le_length (by omega), List.take_of_length_le (by omega), List.take_take] at this
  rw [this]
  congr 1
  omega
theorem emps_at {l : List Nd} {i : Nat} (hi : i < l.length) : empB l (i + 1) = nodeE (emps (l.take i)) (at_ l i) := by
 have h := emps_take l (i + 1) (by omega)
 rw [take_at hi, emps_snoc] at h
 have hl : (emps (l.take i)).length = i + 1 := by rw [emps_len, List.length_take]; omega
 have h2 : ((emps l).take (i + 1 + 1))[i + 1]? = some (nodeE (emps (l.take i)) (at_ l i)) := by
  rw [← h, List.getElem?_append_right (by omega), hl]
  simp
 rw [List.getElem?_take, if_pos (by omega)] at h2
 unfold empB
 rw [List.getD_eq_getElem?_getD, h2]
 rfl
theorem empB_zero (l : List Nd) : empB l 0 = true := by
 have h := emps_take l 0 (by omega)
 have h2 : ((emps l).take 1)[0]? = some true := by
  rw [← h]
  rfl
 rw [List.getElem?_take, if_pos (by omega)] at h2
 unfold empB
 rw [List.getD_eq_getElem?_getD, h2]
 rfl
theorem fit_lv {l : List Nd} {x : Nd} (h : fitB l x = true) : 1 ≤ x.lv ∧ x.lv ≤ 1329 := by
 unfold fitB at h
 rw [Bool.and_eq_true, decide_eq_true_iff] at h
 exact h.1
theorem fit_kid {l : List Nd} {x : Nd} (h : fitB l x = true) {i : Nat} (hi : i < 4) : kidB l x.lv (x.kid i) = true := by
 unfold fitB at h
 rw [Bool.and_eq_true, each_iff] at h
 exact h.2 i hi
theorem kid_up {l : List Nd} {v k : Int} (hv : v ≠ 1) (h : kidB l v k = true) : k = 0 ∨ ∃ m : Nat, k = (m : Int) + 1 ∧ m < l.length ∧ (at_ l m).lv = v - 1 := by
 unfold kidB at h
 rw [if_neg hv, decide_eq_true_iff] at h
 rcases h with h | ⟨h1, h2, h3⟩
 ·
  exact .inl h
 ·
  refine .inr ⟨k.toNat - 1, by omega, by omega, h3⟩
theorem kid_mono {l : List Nd} {i : Nat} {v k : Int} (h : kidB (l.take i) v k = true) : kidB l v k = true := by
 by_cases hv : v = 1
 ·
  subst hv
  exact h
 ·
  have hle := List.length_take_le' i l
  have hli := List.length_take_le i l
  rcases kid_up hv h with rfl | ⟨m, rfl, hm, hl⟩
  ·
   unfold kidB
   rw [if_neg hv]
   exact decide_eq_true (.inl rfl)
  ·
   unfold kidB
   rw [if_neg hv]
   have e : ((m : Int) + 1).toNat - 1 = m := by omega
   rw [at_take (by omega)] at hl
   exact decide_eq_true (.inr ⟨by omega, by omega, by rw [e]; exact hl⟩)
theorem fit_mono {l : List Nd} {i : Nat} {x : Nd} (h : fitB (l.take i) x = true) : fitB l x = true := by
 have h1 := fit_lv h
 unfold fitB
 rw [Bool.and_eq_true, each_iff]
 exact ⟨decide_eq_true h1, fun j hj => kid_mono (fit_kid h hj)⟩
theorem loose_iff {l : List Nd} : looseB l = true ↔ ∀ i, i < l.length → fitB (l.take i) (at_ l i) = true := by
 unfold looseB
 rw [List.all_eq_true]
 exact ⟨fun h i hi => h i (List.mem_range.2 hi), fun h i hi => h i (List.mem_range.1 hi)⟩
theorem loose_fit {l : List Nd} (h : looseB l = true) {i : Nat} (hi : i < l.length) : fitB l (at_ l i) = true := fit_mono (loose_iff.1 h i hi)
theorem emp_one {l : List Nd} {x : Nd} (h : x.lv = 1) : nodeEmp l x = x.each (· == 0) := by
 unfold nodeEmp nodeE
 refine each_congr fun i hi => ?_
 rw [h]
 simp
theorem emp_up {l : List Nd} {x : Nd} (h : 1 < x.lv) : nodeEmp l x = x.each fun c => c == 0 || empB l c.toNat := by
 unfold nodeEmp nodeE
 refine each_congr fun i hi => ?_
 rw [decide_eq_true h, Bool.true_and]
 rfl
theorem nodeE_take {l : List Nd} {i : Nat} {x : Nd} (hi : i ≤ l.length) (h : fitB (l.take i) x = true) : nodeE (emps (l.take i)) x = nodeEmp l x := by
 have hv := fit_lv h
 by_cases h1 : x.lv = 1
 ·
  exact (emp_one (l := l.take i) h1).trans (emp_one h1).symm
 ·
  refine (emp_up (l := l.take i) (by omega)).trans (Eq.trans ?_ (emp_up (by omega)).symm)
  refine each_congr fun j hj => ?_
  rcases kid_up h1 (fit_kid h hj) with e | ⟨m, e, hm, _⟩
  ·
   rw [e]; rfl
  ·
   rw [e]
   congr 1
   have hli := List.length_take_le i l
   unfold empB
   rw [emps_take l i hi, List.getD_eq_getElem?_getD, List.getD_eq_getElem?_getD, List.getElem?_take, if_pos (by omega)]
theorem emp_at {l : List Nd} (h : looseB l = true) {i : Nat} (hi : i < l.length) : empB l (i + 1) = nodeEmp l (at_ l i) := by
 rw [emps_at hi]
 exact nodeE_take (by omega) (loose_iff.1 h i hi)
theorem emp_zero {l : List Nd} {x : Nd} (h : x.each (· == 0) = true) : nodeEmp l x = true := by
 unfold nodeEmp nodeE
 rw [each_iff] at h ⊢
 intro i hi
 rw [h i hi]
 rfl
theorem no_empty {l : List Nd} (h : looseB l = true) (hz : ∀ i, i < l.length → (at_ l i).each (· == 0) = false) : ∀ i, i < l.length → nodeEmp l (at_ l i) = false := by
 intro i
 induction i using Nat.strongRecOn with
 | _ i ih =>
  intro hi
  have hf := loose_iff.1 h i hi
  have hv := fit_lv hf
  by_cases h1 : (at_ l i).lv = 1
  ·
   rw [emp_one h1]
   exact hz i hi
  ·
   rw [emp_up (by omega)]
   cases hq : (at_ l i).each fun c => c == 0 || empB l c.toNat
   ·
    rfl
   ·
    exfalso
    have hall := each_iff.1 hq
    have hzero : (at_ l i).each (· == 0) = true := by
     rw [each_iff]
     intro j hj
     rcases kid_up h1 (fit_kid hf hj) with e | ⟨m, e, hm, _⟩
     ·
      rw [e]; rfl
     ·
      have hli := List.length_take_le i l
      have ht := hall j hj
      rw [e] at ht
      have e2 : ((m : Int) + 1).toNat = m + 1 := by omega
      rw [e2, emp_at h (by omega), ih m (by omega) (by omega), Bool.or_false] at ht
      rw [e]
      exact ht
    rw [hz i hi] at hzero
    cases hzero
end Go.Proofs.YtmfncapgikobkaaGreat.Nds

namespace Go.Proofs.YtmfncapgikobkaaGreat.Nds
set_option maxRecDepth 100000
set_option linter.unusedVariables false
set_option linter.unusedSimpArgs false
def stepK (f : Nat → Nat → Option Nat) (e : Option Nat) (k : Int) : Option Nat := e.bind fun e => if (e : Int) < k then f k.toNat e else some e
def foldTo (f : Nat → Nat → Option Nat) (x : Nd) (e : Nat) : Nat → Option Nat
 | 0 => some e
 | k + 1 => stepK f (foldTo f x e k) (x.kid k)
def wk (l : List Nd) : Nat → Nat → Nat → Option Nat
 | 0, _, _ => none
 | m + 1, n, e => (if 1 < (at_ l (n - 1)).lv then foldTo (wk l m) (at_ l (n - 1)) e 4 else some e).bind fun e' => if n = e' + 1 then some n else none
def stepL (f : Nat → List Nat → List Nat) (out : List Nat) (k : Int) : List Nat := if 0 < k then f k.toNat out else out
def foldL (f : Nat → List Nat → List Nat) (x : Nd) (out : List Nat) : Nat → List Nat
 | 0 => out
 | k + 1 => stepL f (foldL f x out k) (x.kid k)
def endL (l : List Nd) : Nat → Nat → List Nat → List Nat
 | 0, _, out => out
 | m + 1, n, out => if n ∈ out then out else (if 1 < (at_ l (n - 1)).lv then foldL (endL l m) (at_ l (n - 1)) out 4 else out) ++ [n]
theorem kid_of {l : List Nd} (hl : looseB l = true) {n : Nat} (h0 : 0 < n) (hn : n ≤ l.length) (hv : 1 < (at_ l (n - 1)).lv) {i : Nat} (hi : i < 4) :
  (at_ l (n - 1)).kid i = 0 ∨ ∃ p : Nat, (at_ l (n - 1)).kid i = (p : Int) ∧ 0 < p ∧ p < n ∧ (at_ l (p - 1)).lv = (at_ l (n - 1)).lv - 1 := by
 have hf := loose_iff.1 hl (n - 1) (by omega)
 rcases kid_up (by omega) (fit_kid hf hi) with e | ⟨m, e, hm, hl2⟩
 ·
  exact .inl e
 ·
  have hle := List.length_take_le (n - 1) l
  refine .inr ⟨m + 1, by rw [e]; omega, by omega, by omega, ?_⟩
  rw [at_take (by omega)] at hl2
  exact hl2
theorem foldL_pre {f : Nat → List Nat → List Nat} {x : Nd} {out : List Nat} (hf : ∀ n out, out <+: f n out) : ∀ k, out <+: foldL f x out k
 | 0 => List.prefix_rfl
 | k + 1 => by
  unfold foldL stepL
  have h := foldL_pre (x := x) (out := out) hf k
  split
  ·
   exact h.trans (hf _ _)
  ·
   exact h
theorem endL_pre (l : List Nd) : ∀ m n out, out <+: endL l m n out
 | 0, _, _ => List.prefix_rfl
 | m + 1, n, out => by
  unfold endL
  split
  ·
   exact List.prefix_rfl
  ·
   split
   ·
    exact (foldL_pre (fun n out => endL_pre l m n out) 4).trans (List.prefix_append _ _)
   ·
    exact List.prefix_append _ _
theorem endL_in {l : List Nd} {m n : Nat} {out : List Nat} (h : n ∈ out) : endL l m n out = out := by
 cases m with
 | zero => rfl
 | succ m =>
  unfold endL
  rw [if_pos h]
theorem nodup_le : ∀ (N : Nat) (out : List Nat), out.Nodup → (∀ v ∈ out, 0 < v ∧ v ≤ N) → out.length ≤ N
 | 0, out, _, h => by
  cases out with
  | nil => exact Nat.le_refl _
  | cons a r => have := h a (by simp); omega
 | N + 1, out, hd, h => by
  by_cases hm : N + 1 ∈ out
  ·
   have h1 := nodup_le N (out.erase (N + 1)) (hd.erase _) (fun v hv => by
    have hv2 := (hd.mem_erase_iff).1 hv
    have := h v hv2.2
    have := hv2.1
    omega)
   rw [List.length_erase_of_mem hm] at h1
   omega
  ·
   have := nodup_le N out hd (fun v hv => by
    have := h v hv
    have : v ≠ N + 1 := fun e => hm (e ▸ hv)
    omega)
   omega
def upto (e : Nat) : List Nat := List.range' 1 e
theorem mem_upto {e v : Nat} : v ∈ upto e ↔ 0 < v ∧ v ≤ e := by
 unfold upto
 rw [List.mem_range'_1]
 omega
theorem upto_snoc (e : Nat) : upto e ++ [e + 1] = upto (e + 1) := by
 unfold upto
 rw [List.range'_concat]
 simp [Nat.add_comm]
theorem upto_len (e : Nat) : (upto e).length = e := by
 unfold upto
 simp
theorem upto_at {e i : Nat} (h : i < e) : (upto e)[i]? = some (1 + i) := by
 unfold upto
 rw [List.getElem?_range' h]
 simp
theorem upto_pre {out : List Nat} {e : Nat} (h : out <+: upto e) : out = upto out.length := by
 obtain ⟨r, hr⟩ := h
 have hlen := congrArg List.length hr
 rw [List.length_append, upto_len] at hlen
 refine List.ext_getElem (by rw [upto_len]) fun i h1 h2 => ?_
 have h3 : (out ++ r)[i]? = (upto e)[i]? := by rw [hr]
 rw [List.getElem?_append_left h1, upto_at (by omega)] at h3
 have h4 := upto_at (e := out.length) h1
 rw [List.getElem?_eq_getElem h1] at h3
 rw [List.getElem?_eq_getElem h2] at h4
 exact Option.some.inj (h3.trans h4.symm)
theorem wk_end {l : List Nd} (hl : looseB l = true) : ∀ (m n e : Nat), 0 < n → n ≤ l.length → (at_ l (n - 1)).lv ≤ m → e < n →
  (wk l m n e = some n ∧ endL l m n (upto e) = upto n) ∨ (wk l m n e = none ∧ ∀ k, ¬ endL l m n (upto e) <+: upto k)
 | 0, n, e, h0, hn, hv, _ => by
  have := fit_lv (loose_iff.1 hl (n - 1) (by omega))
  omega
 | m + 1, n, e, h0, hn, hv, he => by
  have hnot : n ∉ upto e := fun h => by have := mem_upto.1 h; omega
  by_cases hlv : 1 < (at_ l (n - 1)).lv
  ·
   have key : ∀ k, k ≤ 4 → (∃ e', e' < n ∧ foldTo (wk l m) (at_ l (n - 1)) e k = some e' ∧ foldL (endL l m) (at_ l (n - 1)) (upto e) k = upto e') ∨
     (foldTo (wk l m) (at_ l (n - 1)) e k = none ∧ ∀ j, ¬ foldL (endL l m) (at_ l (n - 1)) (upto e) k <+: upto j) := by
    intro k
    induction k with
    | zero => exact fun _ => .inl ⟨e, he, rfl, rfl⟩
    | succ k ih =>
     intro hk
     rcases ih (by omega) with ⟨e', he', h1, h2⟩ | ⟨h1, h2⟩
     ·
      unfold foldTo foldL
      rw [h1, h2]
      unfold stepK stepL
      rcases kid_of hl h0 hn hlv (i := k) (by omega) with e0 | ⟨p, e0, hp, hpn, hpl⟩
      ·
       rw [e0]
       refine .inl ⟨e', he', ?_, rfl⟩
       rw [Option.bind_some, if_neg (by omega)]
      ·
       rw [e0]
       rw [if_pos (show (0 : Int) < (p : Int) by omega), Int.toNat_natCast, Option.bind_some]
       by_cases hep : e' < p
       ·
        rw [if_pos (by omega)]
        rcases wk_end hl m p e' hp (by omega) (by omega) hep with ⟨g1, g2⟩ | ⟨g1, g2⟩
        ·
         exact .inl ⟨p, hpn, g1, g2⟩
        ·
         exact .inr ⟨g1, g2⟩
       ·
        rw [if_neg (by omega), endL_in (mem_upto.2 ⟨hp, by omega⟩)]
        exact .inl ⟨e', he', rfl, rfl⟩
     ·
      unfold foldTo foldL
      rw [h1]
      refine .inr ⟨rfl, fun j hj => h2 j ?_⟩
      refine List.IsPrefix.trans ?_ hj
      unfold stepL
      split
      ·
       exact endL_pre l m _ _
      ·
       exact List.prefix_rfl
   unfold wk endL
   rw [if_pos hlv, if_neg hnot, if_pos hlv]
   rcases key 4 (by omega) with ⟨e', he', h1, h2⟩ | ⟨h1, h2⟩
   ·
    rw [h1, h2]
    rw [Option.bind_some]
    by_cases hne : n = e' + 1
    ·
     rw [if_pos hne, hne, upto_snoc]
     exact .inl ⟨rfl, rfl⟩
    ·
     rw [if_neg hne]
     refine .inr ⟨rfl, fun k hk => ?_⟩
     have h3 := upto_pre hk
     have h4 : n ∈ upto e' ++ [n] := by simp
     rw [h3, mem_upto, List.length_append, upto_len] at h4
     simp at h4
     omega
   ·
    rw [h1]
    refine .inr ⟨rfl, fun k hk => h2 k ((List.prefix_append _ _).trans hk)⟩
  ·
   unfold wk endL
   rw [if_neg hlv, if_neg hnot, if_neg hlv]
   rw [Option.bind_some]
   by_cases hne : n = e + 1
   ·
    rw [if_pos hne, hne, upto_snoc]
    exact .inl ⟨rfl, rfl⟩
   ·
    rw [if_neg hne]
    refine .inr ⟨rfl, fun k hk => ?_⟩
    have h3 := upto_pre hk
    have h4 : n ∈ upto e ++ [n] := by simp
    rw [h3, mem_upto, List.length_append, upto_len] at h4
    simp at h4
    omega
end Go.Proofs.YtmfncapgikobkaaGreat.Nds

namespace Go.Proofs.YtmfncapgikobkaaGreat
set_option maxRecDepth 100000
set_option linter.unusedVariables false
set_option linter.unusedSimpArgs false
open Go.RowKit Nds
abbrev ndv (x : Nd) : Value := .agg #[.int .i64 x.lv, .int .i64 x.a, .int .i64 x.b, .int .i64 x.c, .int .i64 x.d]
def NdAt (w : World) (b o : Nat) (x : Nd) : Prop :=
 w.cell? ⟨b, o, none⟩ = some (.int .i64 x.lv) ∧ w.cell? ⟨b, o + 1, none⟩ = some (.int .i64 x.a) ∧ w.cell? ⟨b, o + 2, none⟩ = some (.int .i64 x.b) ∧ w.cell? ⟨b, o + 3, none⟩ = some (.int .i64 x.c) ∧ w.cell? ⟨b, o + 4, none⟩ = some (.int .i64 x.d)
def Ns (w : World) (A : Option Addr) (c : Nat) (l : List Nd) : Prop :=
 (∀ x ∈ l, x.wf) ∧ l.length ≤ c ∧ c ≤ maxLen ∧ (0 < l.length → ∃ b off, A = some ⟨b, off, none⟩ ∧ b < w.heap.size ∧ ∀ i, i < l.length → NdAt w b (off + i * 5) (at_ l i))
theorem NdAt.below {w w' : World} {b o : Nat} {x : Nd} (h : NdAt w b o x) (hb : w'.heap[b]? = w.heap[b]?) : NdAt w' b o x := by
 obtain ⟨h1, h2, h3, h4, h5⟩ := h
 exact ⟨(World.cell?_of_block (w := w) hb).trans h1, (World.cell?_of_block (w := w) hb).trans h2, (World.cell?_of_block (w := w) hb).trans h3, (World.cell?_of_block (w := w) hb).trans h4, (World.cell?_of_block (w := w) hb).trans h5⟩
theorem Ns.below {w w' : World} {A : Option Addr} {c : Nat} {l : List Nd} (h : Ns w A c l) (hb : Below w.heap.size w w') : Ns w' A c l :=
 ⟨h.1, h.2.1, h.2.2.1, fun hn => by
  obtain ⟨b, off, e, hlt, hc⟩ := h.2.2.2 hn
  exact ⟨b, off, e, Nat.lt_of_lt_of_le hlt hb.size, fun i hi => (hc i hi).below (hb.block b hlt)⟩⟩
theorem Ns.belowB {w w' : World} {A : Option Addr} {c B : Nat} {l : List Nd} (h : Ns w A c l) (hA : ∀ a, A = some a → a.block < B) (hb : Below B w w') : Ns w' A c l :=
 ⟨h.1, h.2.1, h.2.2.1, fun hn => by
  obtain ⟨b, off, e, hlt, hc⟩ := h.2.2.2 hn
  exact ⟨b, off, e, Nat.lt_of_lt_of_le hlt hb.size, fun i hi => (hc i hi).below (hb.block b (hA _ e))⟩⟩
theorem nd_b {a b : Bool} (h : a = b) : Ending.returned (.bool a) = .returned (.bool b) := by rw [h]
theorem kidB_one (l : List Nd) (k : Int) : kidB l 1 k = decide (0 ≤ k ∧ k ≤ 255) := rfl
theorem kidB_zero (l : List Nd) (v : Int) (hv : v ≠ 1) : kidB l v 0 = true := by
 unfold kidB
 rw [if_neg hv]
 exact decide_eq_true (.inl rfl)
theorem kidB_out (l : List Nd) (v k : Int) (hv : v ≠ 1) (hk : k < 0 ∨ (l.length : Int) < k) : kidB l v k = false := by
 unfold kidB
 rw [if_neg hv]
 exact decide_eq_false (by omega)
theorem kidB_in (l : List Nd) (v : Int) (m : Nat) (hv : v ≠ 1) (hk : m < l.length) : kidB l v ((m : Int) + 1) = decide ((at_ l m).lv = v - 1) := by
 unfold kidB
 rw [if_neg hv]
 have e : ((m : Int) + 1).toNat - 1 = m := by omega
 rw [e]
 refine decide_eq_decide.2 ⟨fun h => ?_, fun h => .inr ⟨by omega, by omega, h⟩⟩
 rcases h with h | h
 ·
  omega
 ·
  exact h.2.2
theorem Ns.at_ {w : World} {A : Option Addr} {c : Nat} {l : List Nd} (h : Ns w A c l) (hn : 0 < l.length) :
  ∃ b off, A = some ⟨b, off, none⟩ ∧ b < w.heap.size ∧ ∀ i, i < l.length → NdAt w b (off + i * 5) (at_ l i) := h.2.2.2 hn
theorem Ns.cap {w : World} {A : Option Addr} {c : Nat} {l : List Nd} (h : Ns w A c l) : l.length ≤ c ∧ c ≤ 9223372036854775807 := by
 have h1 := h.2.1
 have h2 := h.2.2.1
 simp only [maxLen] at h2
 exact ⟨h1, by omega⟩
theorem Ns.wf {w : World} {A : Option Addr} {c : Nat} {l : List Nd} (h : Ns w A c l) {i : Nat} (hi : i < l.length) : (Nds.at_ l i).wf := h.1 _ (at_mem hi)
end Go.Proofs.YtmfncapgikobkaaGreat

namespace Go.Proofs.YtmfncapgikobkaaGreat
set_option maxRecDepth 100000
set_option linter.unusedVariables false
set_option linter.unusedSimpArgs false
open Go.RowKit Nds
theorem index4_0 (a b c d : Int) (w : World) : (Instr.index 54 (.agg #[.int .i64 a, .int .i64 b, .int .i64 c, .int .i64 d]) (.int .i64 0)).run Tryz.prog w = .ok (.int .i64 a) w := by kernel_rfl
theorem index4_1 (a b c d : Int) (w : World) : (Instr.index 54 (.agg #[.int .i64 a, .int .i64 b, .int .i64 c, .int .i64 d]) (.int .i64 1)).run Tryz.prog w = .ok (.int .i64 b) w := by kernel_rfl
theorem index4_2 (a b c d : Int) (w : World) : (Instr.index 54 (.agg #[.int .i64 a, .int .i64 b, .int .i64 c, .int .i64 d]) (.int .i64 2)).run Tryz.prog w = .ok (.int .i64 c) w := by kernel_rfl
theorem index4_3 (a b c d : Int) (w : World) : (Instr.index 54 (.agg #[.int .i64 a, .int .i64 b, .int .i64 c, .int .i64 d]) (.int .i64 3)).run Tryz.prog w = .ok (.int .i64 d) w := by kernel_rfl
theorem index4 (x : Nd) (k : Nat) (hk : k < 4) (w : World) :
  (Instr.index 54 (.agg #[.int .i64 x.a, .int .i64 x.b, .int .i64 x.c, .int .i64 x.d]) (.int .i64 (k : Int))).run Tryz.prog w = .ok (.int .i64 (x.kid k)) w := by
 match k, hk with
 | 0, _ => exact index4_0 _ _ _ _ w
 | 1, _ => exact index4_1 _ _ _ _ w
 | 2, _ => exact index4_2 _ _ _ _ w
 | 3, _ => exact index4_3 _ _ _ _ w
theorem fitB_no {l : List Nd} {x : Nd} (h : ¬ (1 ≤ x.lv ∧ x.lv ≤ 1329)) : fitB l x = false := by
 unfold fitB
 rw [decide_eq_false h]
 rfl
theorem fitB_kid {l : List Nd} {x : Nd} {k : Nat} (hk : k < 4) (h : kidB l x.lv (x.kid k) = false) : fitB l x = false := by
 unfold fitB
 rw [Bool.and_eq_false_iff]
 right
 rw [← Bool.not_eq_true, each_iff]
 intro h2
 have := h2 k hk
 rw [h] at this
 cases this
theorem fitB_yes {l : List Nd} {x : Nd} (h : 1 ≤ x.lv ∧ x.lv ≤ 1329) (h2 : ∀ k, k < 4 → kidB l x.lv (x.kid k) = true) : fitB l x = true := by
 unfold fitB
 rw [decide_eq_true h, each_iff.2 h2]
 rfl
theorem Ns.cut {w : World} {A : Option Addr} {c : Nat} {l : List Nd} (h : Ns w A c l) (k : Nat) : Ns w A c (l.take k) := by
 refine ⟨fun x hx => h.1 x (List.mem_of_mem_take hx), by have := List.length_take_le' k l; have := h.2.1; omega, h.2.2.1, fun hn => ?_⟩
 have h0 : 0 < l.length := by rw [List.length_take] at hn; omega
 obtain ⟨b, off, e, hlt, hc⟩ := h.at_ h0
 refine ⟨b, off, e, hlt, fun i hi => ?_⟩
 rw [List.length_take] at hi
 rw [at_take (by omega)]
 exact hc i (by omega)
theorem NdAt.new (w : World) (x : Nd) (t : TypeId) : NdAt (w.alloc (.cells #[.int .i64 x.lv, .int .i64 x.a, .int .i64 x.b, .int .i64 x.c, .int .i64 x.d] t)) w.heap.size 0 x := by
 have h := heap_alloc_new w (.cells #[.int .i64 x.lv, .int .i64 x.a, .int .i64 x.b, .int .i64 x.c, .int .i64 x.d] t)
 exact ⟨by rw [cell_of_row _ _ _ _ _ _ h]; rfl, by rw [cell_of_row _ _ _ _ _ _ h]; rfl, by rw [cell_of_row _ _ _ _ _ _ h]; rfl, by rw [cell_of_row _ _ _ _ _ _ h]; rfl, by rw [cell_of_row _ _ _ _ _ _ h]; rfl⟩
theorem Ns.drew {w : World} {A : Option Addr} {c : Nat} {l : List Nd} (h : Ns w A c l) : Ns w.drew A c l := h
theorem NdAt.drew {w : World} {b o : Nat} {x : Nd} (h : NdAt w b o x) : NdAt w.drew b o x := h
end Go.Proofs.YtmfncapgikobkaaGreat

namespace Go.Proofs.YtmfncapgikobkaaGreat
set_option maxRecDepth 100000
set_option linter.unusedVariables false
set_option linter.unusedSimpArgs false
open Go.RowKit Nds Go.Maps
theorem Tryz.laidOutK : laidOutB Tryz.prog = true := by kernel_rfl
theorem Tryz.rowK : (56 : TypeId) < Tryz.prog.types.size := of_decide_eq_true (by kernel_rfl)
theorem Tryz.wideK : (match Tryz.prog.underlying 56 with | some (.array _ _) | some (.struct _) => true | _ => false) = true := by kernel_rfl
theorem Tryz.nodeLaw : Keyed Tryz.prog 56 := Keyed.of_law (deep_law_laid Tryz.laidOutK (m := 4) (by omega) Tryz.rowK (by kernel_rfl) Tryz.wideK)
theorem Tryz.nodeKT : Tryz.prog.keyType 56 = true := by kernel_rfl
theorem Tryz.cellsN : Tryz.prog.cellsOf 56 = 5 := by kernel_rfl
theorem Tryz.cells4 : Tryz.prog.cellsOf 54 = 4 := by kernel_rfl
theorem Tryz.cells1 : Tryz.prog.cellsOf 3 = 1 := by kernel_rfl
theorem key_int {n : Int} (h : in64 n) (d : Nat) : Tryz.prog.keyLits (d + 1) 3 [.int .i64 n] = some [.int .i64 n] := by
 have hw : (Lit.int .i64 n).wf = true := WalkArith.wf_i64 h
 simp [Program.keyLits, Tryz.underlying3, hw]
set_option maxRecDepth 100000 in
theorem key_four {a b c d : Int} (ha : in64 a) (hb : in64 b) (hc : in64 c) (hd : in64 d) (m : Nat) :
  Tryz.prog.keyLits (m + 2) 54 [.int .i64 a, .int .i64 b, .int .i64 c, .int .i64 d] = some [.int .i64 a, .int .i64 b, .int .i64 c, .int .i64 d] := by
 have e : Tryz.prog.keyLits (m + 2) 54 [.int .i64 a, .int .i64 b, .int .i64 c, .int .i64 d] = ((List.range 4).mapM fun i => Tryz.prog.keyLits (m + 1) 3 (([.int .i64 a, .int .i64 b, .int .i64 c, .int .i64 d].drop (i * Tryz.prog.cellsOf 3)).take (Tryz.prog.cellsOf 3))).map List.flatten := by
  unfold Program.keyLits
  simp only [Tryz.underlying54]
  rw [if_pos (by rw [Tryz.cells4]; rfl)]
  rfl
 rw [e, Tryz.cells1]
 simp [List.range, List.range.loop, key_int ha, key_int hb, key_int hc, key_int hd]
theorem key_five (x : Nd) (h : x.wf) (m : Nat) : Tryz.prog.keyLits (m + 3) 56 [.int .i64 x.lv, .int .i64 x.a, .int .i64 x.b, .int .i64 x.c, .int .i64 x.d] = some [.int .i64 x.lv, .int .i64 x.a, .int .i64 x.b, .int .i64 x.c, .int .i64 x.d] := by
 obtain ⟨h0, h1, h2, h3, h4⟩ := h
 unfold Program.keyLits
 simp only [Tryz.underlying56]
 simp [Tryz.cellsN, Tryz.cells4, Tryz.cells1, key_int h0, key_four h1 h2 h3 h4]
theorem form_node (x : Nd) : (ndv x).formed Tryz.prog 56 = true := by simp [Value.formed, Tryz.underlying56, Tryz.cellsN]
theorem equal_node (x y : Nd) (hx : x.wf) (hy : y.wf) (w : World) : (Op.equalIn 10000 56 (ndv x) (ndv y)).run Tryz.prog w = .ok (decide (x = y)) w := by
 obtain ⟨r, hr, hi⟩ := run_equalIn_deep (P := Tryz.prog) 9996 4 56 (by kernel_rfl) w 3 3 (ndv x) (ndv y) _ _ (form_node x) (form_node y) (key_five x hx 0) (key_five y hy 0)
 have e : r = decide (x = y) := by
  rw [Bool.eq_iff_iff, hi, decide_eq_true_iff]
  constructor
  ·
   intro h
   simp only [List.cons.injEq, Lit.int.injEq, true_and, and_true] at h
   exact Nd.ext' h.1 h.2.1 h.2.2.1 h.2.2.2.1 h.2.2.2.2
  ·
   rintro rfl
   rfl
 rw [← e]
 exact hr
theorem eql_node (x y : Nd) (hx : x.wf) (hy : y.wf) (w : World) : (binOp .eql 56 (ndv x) (ndv y)).run Tryz.prog w = .ok (.bool (decide (x = y))) w := by
 rw [run_eql_struct, equal_node x y hx hy]
 rfl
theorem neq_node (x y : Nd) (hx : x.wf) (hy : y.wf) (w : World) : (binOp .neq 56 (ndv x) (ndv y)).run Tryz.prog w = .ok (.bool (!decide (x = y))) w := by
 rw [run_neq_struct, equal_node x y hx hy]
 rfl
theorem in64_0 : in64 0 := ⟨by omega, by omega⟩
theorem key_node (x : Nd) (h : x.wf) : ∃ l, keyOf Tryz.prog 56 (ndv x) = some l := by
 have hf := form_node x
 obtain ⟨m, hm⟩ : ∃ m, Tryz.prog.types.size + 1 = m + 3 := ⟨Tryz.prog.types.size - 2, by have : (56 : Nat) < Tryz.prog.types.size := Tryz.rowK; omega⟩
 have e := key_five x h m
 unfold keyOf
 rw [Tryz.underlying56]
 simp only [Tryz.nodeKT, hf, Bool.and_self, if_true, hm]
 simp only [Value.cells, e, Option.map_some]
 exact ⟨_, rfl⟩
def NM (w : World) (b : Nat) (S : List Nd) : Prop :=
 (∀ y ∈ S, y.wf) ∧ ∃ es clock, w.heap[b]? = some (.map es clock) ∧ (∀ e ∈ es.toList, ∃ y ∈ S, e.key = ndv y ∧ e.val = .bool true) ∧ ∀ y ∈ S, ∃ e ∈ es.toList, e.key = ndv y
theorem ndv_inj {x y : Nd} (h : ndv x = ndv y) : x = y := by
 simp only [ndv, Value.agg.injEq, Array.mk.injEq, List.cons.injEq, Value.int.injEq, true_and, and_true] at h
 exact Nd.ext' h.1 h.2.1 h.2.2.1 h.2.2.2.1 h.2.2.2.2
theorem NM.keys {S : List Nd} {es : Array MapEntry} (hS : ∀ y ∈ S, y.wf) (h : ∀ e ∈ es.toList, ∃ y ∈ S, e.key = ndv y ∧ e.val = .bool true) : ∀ e ∈ es.toList, ∃ l, keyOf Tryz.prog 56 e.key = some l := by
 intro e he
 obtain ⟨y, hy, hk, _⟩ := h e he
 rw [hk]
 exact key_node y (hS y hy)
theorem NM.lt {w : World} {b : Nat} {S : List Nd} (h : NM w b S) : b < w.heap.size := by
 obtain ⟨_, es, clock, hb, _⟩ := h
 exact (Array.getElem?_eq_some_iff.1 hb).1
theorem NM.stay {w w' : World} {b : Nat} {S : List Nd} (h : NM w b S) (hb : w'.heap[b]? = w.heap[b]?) : NM w' b S := by
 obtain ⟨hS, es, clock, hh, r⟩ := h
 exact ⟨hS, es, clock, hb.trans hh, r⟩
theorem NM.made (w : World) : NM (w.alloc (.map #[] 0)) w.heap.size [] :=
 ⟨by simp, #[], 0, heap_alloc_new w _, by simp, by simp⟩
end Go.Proofs.YtmfncapgikobkaaGreat

namespace Go.Proofs.YtmfncapgikobkaaGreat
set_option maxRecDepth 100000
set_option linter.unusedVariables false
set_option linter.unusedSimpArgs false
open Go.RowKit Nds
theorem gb_trans {a b c : World} {r : Option Nat} (h : a.grownBy b r) (k : b.grownBy c r) : a.grownBy c r :=
 ⟨k.os.trans h.os, k.tape.trans h.tape, k.output.trans h.output, Nat.le_trans h.size k.size, fun i hi hr => (k.block i (Nat.lt_of_lt_of_le hi h.size) hr).trans (h.block i hi hr)⟩
theorem Ns.gb {w w' : World} {A : Option Addr} {c : Nat} {l : List Nd} {b : Nat} (h : Ns w A c l) (hA : ∀ a, A = some a → a.block ≠ b) (hg : w.grownBy w' (some b)) : Ns w' A c l :=
 ⟨h.1, h.2.1, h.2.2.1, fun hn => by
  obtain ⟨g, off, e, hlt, hc⟩ := h.2.2.2 hn
  have hne : g ≠ b := hA _ e
  exact ⟨g, off, e, Nat.lt_of_lt_of_le hlt hg.size, fun i hi => (hc i hi).below (hg.block g hlt (fun e => hne (by cases e; rfl)))⟩⟩
end Go.Proofs.YtmfncapgikobkaaGreat

namespace Go.Proofs.YtmfncapgikobkaaGreat
set_option maxRecDepth 100000
set_option linter.unusedVariables false
set_option linter.unusedSimpArgs false
open Go.RowKit Nds
def rim (x : Nd) (i : Nat) : Nd := match i with | 0 => { x with d := 0 } | 1 => { x with c := 0 } | 2 => { x with b := 0 } | _ => { x with a := 0 }
theorem rim_lv (x : Nd) (i : Nat) : (rim x i).lv = x.lv := by
 unfold rim
 split <;> rfl
theorem rim_kid (x : Nd) (i j : Nat) : (rim x i).kid j = 0 ∨ (rim x i).kid j = x.kid j := by
 unfold rim
 split <;> (unfold Nd.kid; split <;> simp)
theorem kid_zero (l : List Nd) (v : Int) : kidB l v 0 = true := by
 unfold kidB
 split
 ·
  exact decide_eq_true (by omega)
 ·
  exact decide_eq_true (.inl rfl)
theorem rim_fit {l : List Nd} {x : Nd} (h : fitB l x = true) (i : Nat) : fitB l (rim x i) = true := by
 have hv := fit_lv h
 unfold fitB
 rw [rim_lv, Bool.and_eq_true, each_iff]
 refine ⟨decide_eq_true hv, fun j hj => ?_⟩
 rcases rim_kid x i j with e | e
 ·
  rw [e]; exact kid_zero _ _
 ·
  rw [e]; exact fit_kid h hj
def hollowB (l : List Nd) (n : Nat) : Bool :=
 decide (0 < n ∧ 2 ≤ (at_ l (n - 1)).lv) && (List.range 4).all fun i => decide ((at_ l (n - 1)).kid i = 0) || nodeEmp l (rim (at_ l (((at_ l (n - 1)).kid i).toNat - 1)) i)
theorem all4_no {p : Nat → Bool} {k : Nat} (hk : k < 4) (h : p k = false) : false = (List.range 4).all p := by
 cases hq : (List.range 4).all p
 ·
  rfl
 ·
  have := List.all_eq_true.1 hq k (List.mem_range.2 hk)
  rw [h] at this
  cases this
theorem all4_yes {p : Nat → Bool} (h : ∀ j, j < 4 → p j = true) : true = (List.range 4).all p :=
 (List.all_eq_true.2 fun j hj => h j (List.mem_range.1 hj)).symm
end Go.Proofs.YtmfncapgikobkaaGreat

namespace Go.Proofs.YtmfncapgikobkaaGreat
set_option maxRecDepth 100000
set_option linter.unusedVariables false
set_option linter.unusedSimpArgs false
open Go.RowKit Nds
def quadB (l : List Nd) : Bool := decide (l = []) || (looseB l && (distB l && (!hollowB l l.length && decide (wk l 1329 l.length 0 = some l.length))))
end Go.Proofs.YtmfncapgikobkaaGreat
