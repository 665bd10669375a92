/-
  node: walks through a list of nodes, plain.
-/
import Derived.Test.YtbcolelgbbmjkaaNdsE

namespace Go.Proofs.Ytbcolelgbbmjkaa.Nds
set_option linter.unusedVariables false
set_option linter.unusedSimpArgs false
/-- The program's way: who has come to an end; none: not in the order of the numbers. -/
def stepK (f : Nat → Nat → Option Nat) (e : Option Nat) (k : Int) : Option Nat := e.bind fun e => if (e : Int) < k then f k.toNat e else some e
def foldTo (f : Nat → Nat → Option Nat) (x : Nd) (e : Nat) : Nat → Option Nat
  | 0 => some e
  | k + 1 => stepK f (foldTo f x e k) (x.kid k)
def wk (l : List Nd) : Nat → Nat → Nat → Option Nat
  | 0, _, _ => none
  | m + 1, n, e => (if 1 < (at_ l (n - 1)).lv then foldTo (wk l m) (at_ l (n - 1)) e 4 else some e).bind fun e' => if n = e' + 1 then some n else none
/-- The reference's way: the numbers in the order in which they come to an end. -/
def stepL (f : Nat → List Nat → List Nat) (out : List Nat) (k : Int) : List Nat := if 0 < k then f k.toNat out else out
def foldL (f : Nat → List Nat → List Nat) (x : Nd) (out : List Nat) : Nat → List Nat
  | 0 => out
  | k + 1 => stepL f (foldL f x out k) (x.kid k)
def endL (l : List Nd) : Nat → Nat → List Nat → List Nat
  | 0, _, out => out
  | m + 1, n, out => if n ∈ out then out else (if 1 < (at_ l (n - 1)).lv then foldL (endL l m) (at_ l (n - 1)) out 4 else out) ++ [n]
/-- A node's kid, in a loose list. -/
theorem kid_of {l : List Nd} (hl : looseB l = true) {n : Nat} (h0 : 0 < n) (hn : n ≤ l.length) (hv : 1 < (at_ l (n - 1)).lv) {i : Nat} (hi : i < 4) :
    (at_ l (n - 1)).kid i = 0 ∨ ∃ p : Nat, (at_ l (n - 1)).kid i = (p : Int) ∧ 0 < p ∧ p < n ∧ (at_ l (p - 1)).lv = (at_ l (n - 1)).lv - 1 := by
  have hf := loose_iff.1 hl (n - 1) (by omega)
  rcases kid_up (by omega) (fit_kid hf hi) with e | ⟨m, e, hm, hl2⟩
  · exact .inl e
  · have hle := List.length_take_le (n - 1) l
    refine .inr ⟨m + 1, by rw [e]; omega, by omega, by omega, ?_⟩
    rw [at_take (by omega)] at hl2
    exact hl2
theorem foldL_pre {f : Nat → List Nat → List Nat} {x : Nd} {out : List Nat} (hf : ∀ n out, out <+: f n out) : ∀ k, out <+: foldL f x out k
  | 0 => List.prefix_rfl
  | k + 1 => by
    unfold foldL stepL
    have h := foldL_pre (x := x) (out := out) hf k
    split
    · exact h.trans (hf _ _)
    · exact h
theorem endL_pre (l : List Nd) : ∀ m n out, out <+: endL l m n out
  | 0, _, _ => List.prefix_rfl
  | m + 1, n, out => by
    unfold endL
    split
    · exact List.prefix_rfl
    · split
      · exact (foldL_pre (fun n out => endL_pre l m n out) 4).trans (List.prefix_append _ _)
      · exact List.prefix_append _ _
theorem endL_in {l : List Nd} {m n : Nat} {out : List Nat} (h : n ∈ out) : endL l m n out = out := by
  cases m with
  | zero => rfl
  | succ m =>
    unfold endL
    rw [if_pos h]
theorem nodup_le : ∀ (N : Nat) (out : List Nat), out.Nodup → (∀ v ∈ out, 0 < v ∧ v ≤ N) → out.length ≤ N
  | 0, out, _, h => by
    cases out with
    | nil => exact Nat.le_refl _
    | cons a r => have := h a (by simp); omega
  | N + 1, out, hd, h => by
    by_cases hm : N + 1 ∈ out
    · have h1 := nodup_le N (out.erase (N + 1)) (hd.erase _) (fun v hv => by
        have hv2 := (hd.mem_erase_iff).1 hv
        have := h v hv2.2
        have := hv2.1
        omega)
      rw [List.length_erase_of_mem hm] at h1
      omega
    · have := nodup_le N out hd (fun v hv => by
        have := h v hv
        have : v ≠ N + 1 := fun e => hm (e ▸ hv)
        omega)
      omega
/-- 1, 2, 3 and so on. -/
def upto (e : Nat) : List Nat := List.range' 1 e
theorem mem_upto {e v : Nat} : v ∈ upto e ↔ 0 < v ∧ v ≤ e := by
  unfold upto
  rw [List.mem_range'_1]
  omega
theorem upto_snoc (e : Nat) : upto e ++ [e + 1] = upto (e + 1) := by
  unfold upto
  rw [List.range'_concat]
  simp [Nat.add_comm]
theorem upto_len (e : Nat) : (upto e).length = e := by
  unfold upto
  simp
theorem upto_at {e i : Nat} (h : i < e) : (upto e)[i]? = some (1 + i) := by
  unfold upto
  rw [List.getElem?_range' h]
  simp
theorem upto_pre {out : List Nat} {e : Nat} (h : out <+: upto e) : out = upto out.length := by
  obtain ⟨r, hr⟩ := h
  have hlen := congrArg List.length hr
  rw [List.length_append, upto_len] at hlen
  refine List.ext_getElem (by rw [upto_len]) fun i h1 h2 => ?_
  have h3 : (out ++ r)[i]? = (upto e)[i]? := by rw [hr]
  rw [List.getElem?_append_left h1, upto_at (by omega)] at h3
  have h4 := upto_at (e := out.length) h1
  rw [List.getElem?_eq_getElem h1] at h3
  rw [List.getElem?_eq_getElem h2] at h4
  exact Option.some.inj (h3.trans h4.symm)
/-- The two ways say the same. -/
theorem wk_end {l : List Nd} (hl : looseB l = true) : ∀ (m n e : Nat), 0 < n → n ≤ l.length → (at_ l (n - 1)).lv ≤ m → e < n →
    (wk l m n e = some n ∧ endL l m n (upto e) = upto n) ∨ (wk l m n e = none ∧ ∀ k, ¬ endL l m n (upto e) <+: upto k)
  | 0, n, e, h0, hn, hv, _ => by
    have := fit_lv (loose_iff.1 hl (n - 1) (by omega))
    omega
  | m + 1, n, e, h0, hn, hv, he => by
    have hnot : n ∉ upto e := fun h => by have := mem_upto.1 h; omega
    by_cases hlv : 1 < (at_ l (n - 1)).lv
    · have key : ∀ k, k ≤ 4 → (∃ e', e' < n ∧ foldTo (wk l m) (at_ l (n - 1)) e k = some e' ∧ foldL (endL l m) (at_ l (n - 1)) (upto e) k = upto e') ∨
          (foldTo (wk l m) (at_ l (n - 1)) e k = none ∧ ∀ j, ¬ foldL (endL l m) (at_ l (n - 1)) (upto e) k <+: upto j) := by
        intro k
        induction k with
        | zero => exact fun _ => .inl ⟨e, he, rfl, rfl⟩
        | succ k ih =>
          intro hk
          rcases ih (by omega) with ⟨e', he', h1, h2⟩ | ⟨h1, h2⟩
          · unfold foldTo foldL
            rw [h1, h2]
            unfold stepK stepL
            rcases kid_of hl h0 hn hlv (i := k) (by omega) with e0 | ⟨p, e0, hp, hpn, hpl⟩
            · rw [e0]
              refine .inl ⟨e', he', ?_, rfl⟩
              rw [Option.bind_some, if_neg (by omega)]
            · rw [e0]
              rw [if_pos (show (0 : Int) < (p : Int) by omega), Int.toNat_natCast, Option.bind_some]
              by_cases hep : e' < p
              · rw [if_pos (by omega)]
                rcases wk_end hl m p e' hp (by omega) (by omega) hep with ⟨g1, g2⟩ | ⟨g1, g2⟩
                · exact .inl ⟨p, hpn, g1, g2⟩
                · exact .inr ⟨g1, g2⟩
              · rw [if_neg (by omega), endL_in (mem_upto.2 ⟨hp, by omega⟩)]
                exact .inl ⟨e', he', rfl, rfl⟩
          · unfold foldTo foldL
            rw [h1]
            refine .inr ⟨rfl, fun j hj => h2 j ?_⟩
            refine List.IsPrefix.trans ?_ hj
            unfold stepL
            split
            · exact endL_pre l m _ _
            · exact List.prefix_rfl
      unfold wk endL
      rw [if_pos hlv, if_neg hnot, if_pos hlv]
      rcases key 4 (by omega) with ⟨e', he', h1, h2⟩ | ⟨h1, h2⟩
      · rw [h1, h2]
        rw [Option.bind_some]
        by_cases hne : n = e' + 1
        · rw [if_pos hne, hne, upto_snoc]
          exact .inl ⟨rfl, rfl⟩
        · rw [if_neg hne]
          refine .inr ⟨rfl, fun k hk => ?_⟩
          have h3 := upto_pre hk
          have h4 : n ∈ upto e' ++ [n] := by simp
          rw [h3, mem_upto, List.length_append, upto_len] at h4
          simp at h4
          omega
      · rw [h1]
        refine .inr ⟨rfl, fun k hk => h2 k ((List.prefix_append _ _).trans hk)⟩
    · unfold wk endL
      rw [if_neg hlv, if_neg hnot, if_neg hlv]
      rw [Option.bind_some]
      by_cases hne : n = e + 1
      · rw [if_pos hne, hne, upto_snoc]
        exact .inl ⟨rfl, rfl⟩
      · rw [if_neg hne]
        refine .inr ⟨rfl, fun k hk => ?_⟩
        have h3 := upto_pre hk
        have h4 : n ∈ upto e ++ [n] := by simp
        rw [h3, mem_upto, List.length_append, upto_len] at h4
        simp at h4
        omega
end Go.Proofs.Ytbcolelgbbmjkaa.Nds
