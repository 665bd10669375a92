/-
  text: rules, places, and what texts have in common, over lists of bytes.
-/
import GoSem.Claim

namespace Go.Proofs.Ytoijmlombnnfbaa
set_option linter.unusedVariables false
set_option linter.unusedSimpArgs false
namespace Txt
/-- How many bytes stand behind the last line feed. -/
def tail10 (l : List UInt8) : Nat := l.foldl (fun n b => if b = 10 then 0 else n + 1) 0
theorem tail10_snoc (l : List UInt8) (b : UInt8) : tail10 (l ++ [b]) = if b = 10 then 0 else tail10 l + 1 := by
  unfold tail10
  rw [List.foldl_append]
  rfl
theorem tail10_le (l : List UInt8) : tail10 l ≤ l.length := by
  suffices h : ∀ (l : List UInt8) (n : Nat), l.foldl (fun n b => if b = 10 then 0 else n + 1) n ≤ n + l.length by simpa [tail10] using h l 0
  intro l
  induction l with
  | nil => intro n; simp
  | cons b l ih =>
    intro n
    rw [List.foldl_cons]
    refine Nat.le_trans (ih _) ?_
    rw [List.length_cons]
    split <;> omega
theorem tail10_more (l : List UInt8) : ∀ (m : List UInt8), (∀ b ∈ m, b ≠ 10) → tail10 (l ++ m) = tail10 l + m.length := by
  intro m
  induction m generalizing l with
  | nil => intro _; simp
  | cons b m ih =>
    intro h
    have h1 := ih (l ++ [b]) (fun x hx => h x (by simp [hx]))
    rw [List.append_assoc] at h1
    rw [show l ++ b :: m = l ++ ([b] ++ m) by rfl, h1, tail10_snoc, if_neg (h b (by simp)), List.length_cons]
    omega
theorem count10_snoc (l : List UInt8) (b : UInt8) : (l ++ [b]).count 10 = if b = 10 then l.count 10 + 1 else l.count 10 := by
  rw [List.count_append, List.count_singleton]
  by_cases h : b = 10
  · rw [if_pos h, h]
    rfl
  · rw [if_neg h, if_neg (by simpa using h)]; rfl
theorem take_snoc {l : List UInt8} {k : Nat} {b : UInt8} (h : l[k]? = some b) : l.take (k + 1) = l.take k ++ [b] := by
  rw [List.take_add_one, h]
  rfl
theorem count10_next {l : List UInt8} {k : Nat} {b : UInt8} (h : l[k]? = some b) : (l.take (k + 1)).count 10 = if b = 10 then (l.take k).count 10 + 1 else (l.take k).count 10 := by
  rw [take_snoc h, count10_snoc]
theorem tail10_next {l : List UInt8} {k : Nat} {b : UInt8} (h : l[k]? = some b) : tail10 (l.take (k + 1)) = if b = 10 then 0 else tail10 (l.take k) + 1 := by
  rw [take_snoc h, tail10_snoc]
theorem count10_le (l : List UInt8) : l.count 10 ≤ l.length := List.count_le_length
/-- The last line feed, found from the end. -/
theorem tail10_at {l : List UInt8} {k : Nat} (hb : l[k]? = some 10) (h : ∀ b ∈ l.drop (k + 1), b ≠ 10) : tail10 l = l.length - (k + 1) := by
  have e := List.take_append_drop (k + 1) l
  have hk : k < l.length := by
    rcases Nat.lt_or_ge k l.length with h1 | h1
    · exact h1
    · rw [List.getElem?_eq_none h1] at hb; cases hb
  rw [← e, tail10_more _ _ h, tail10_next hb, if_pos rfl]
  simp
theorem tail10_none {l : List UInt8} (h : ∀ b ∈ l, b ≠ 10) : tail10 l = l.length := by
  have e := tail10_more [] l h
  simpa [tail10] using e
theorem drop_ne {l : List UInt8} {k : Nat} {b : UInt8} (hb : l[k]? = some b) (hn : b ≠ 10) (h : ∀ x ∈ l.drop (k + 1), x ≠ 10) : ∀ x ∈ l.drop k, x ≠ 10 := by
  intro x hx
  have hk : k < l.length := by
    rcases Nat.lt_or_ge k l.length with h1 | h1
    · exact h1
    · rw [List.getElem?_eq_none h1] at hb; cases hb
  rw [List.drop_eq_getElem_cons hk] at hx
  rcases List.mem_cons.1 hx with hx | hx
  · rw [List.getElem?_eq_getElem hk] at hb
    rw [hx, Option.some.inj hb]
    exact hn
  · exact h x hx
/-- The line of a place. -/
def lineAt (l : List UInt8) (a : Int) : Int := if 0 ≤ a ∧ a ≤ l.length then (((l.take a.toNat).count 10 : Nat) : Int) + 1 else 0
/-- The column of a place. -/
def colAt (l : List UInt8) (a : Int) : Int := if 0 ≤ a ∧ a ≤ l.length then ((tail10 (l.take a.toNat) : Nat) : Int) + 1 else 0
def sgn (b : UInt8) : Bool := decide (33 ≤ b.toNat ∧ b.toNat ≤ 126)
def ruleB (l : List UInt8) : Bool := decide (1 ≤ l.length ∧ l.length ≤ 40) && l.all sgn
theorem rule_no {l : List UInt8} {k : Nat} {b : UInt8} (hb : l[k]? = some b) (h : sgn b = false) : l.all sgn = false := by
  rw [Bool.eq_false_iff]
  intro h1
  have := List.all_eq_true.1 h1 b (List.mem_of_getElem? hb)
  rw [h] at this
  cases this
theorem rule_yes {l : List UInt8} (h : ∀ b ∈ l.take l.length, sgn b = true) : l.all sgn = true := by
  rw [List.take_length] at h
  exact List.all_eq_true.2 h
theorem take_sgn {l : List UInt8} {k : Nat} {b : UInt8} (h : l[k]? = some b) (hd : sgn b = true) (hp : ∀ x ∈ l.take k, sgn x = true) : ∀ x ∈ l.take (k + 1), sgn x = true := by
  intro x hx
  rw [List.take_add_one, h] at hx
  rcases List.mem_append.1 hx with hx | hx
  · exact hp x hx
  · simp at hx
    rw [hx]
    exact hd
theorem ruleB_append {l m : List UInt8} (hl : ruleB l = true) (hm : ruleB m = true) : ruleB (l ++ m) = decide (((l.length : Nat) : Int) + (m.length : Nat) ≤ 40) := by
  unfold ruleB at hl hm ⊢
  simp only [Bool.and_eq_true, decide_eq_true_eq] at hl hm
  rw [List.all_append, hl.2, hm.2, List.length_append]
  simp only [Bool.and_self, Bool.and_true]
  exact decide_eq_decide.2 ⟨fun h => by omega, fun h => by omega⟩
/-- How many bytes are the same, from the beginning on. -/
def comm : List UInt8 → List UInt8 → Nat
  | a :: l, b :: m => if a = b then comm l m + 1 else 0
  | _, _ => 0
theorem comm_le_left : ∀ (l m : List UInt8), comm l m ≤ l.length
  | [], _ => by unfold comm; simp
  | _ :: _, [] => by unfold comm; simp
  | a :: l, b :: m => by
    unfold comm
    have := comm_le_left l m
    rw [List.length_cons]
    split <;> omega
theorem comm_swap : ∀ (l m : List UInt8), comm l m = comm m l
  | [], [] => rfl
  | [], _ :: _ => rfl
  | _ :: _, [] => rfl
  | a :: l, b :: m => by
    unfold comm
    rw [comm_swap l m]
    by_cases h : a = b
    · rw [if_pos h, if_pos h.symm]
    · rw [if_neg h, if_neg (Ne.symm h)]
theorem comm_append : ∀ (a l m : List UInt8), comm (a ++ l) (a ++ m) = a.length + comm l m
  | [], l, m => by simp
  | x :: a, l, m => by
    rw [List.cons_append, List.cons_append]
    rw [comm, if_pos rfl, comm_append a l m, List.length_cons]
    omega
theorem comm_eq {i : Nat} : ∀ {a b : List UInt8}, a.take i = b.take i → i ≤ a.length → i ≤ b.length → (∀ x y, a[i]? = some x → b[i]? = some y → x ≠ y) → comm a b = i := by
  induction i with
  | zero =>
    intro a b _ _ _ e
    match a, b with
    | [], _ => rfl
    | _ :: _, [] => rfl
    | x :: a, y :: b =>
      unfold comm
      rw [if_neg (e x y rfl rfl)]
  | succ i ih =>
    intro a b h h1 h2 e
    match a, b with
    | [], _ => simp at h1
    | _ :: _, [] => simp at h2
    | x :: a, y :: b =>
      rw [List.take_succ_cons, List.take_succ_cons] at h
      obtain ⟨rfl, h3⟩ := List.cons.inj h
      rw [comm, if_pos rfl, ih h3 (by simpa using h1) (by simpa using h2) (fun u v hu hv => e u v (by simpa using hu) (by simpa using hv))]
theorem take_same {a b : List UInt8} {i : Nat} {x : UInt8} (h : a.take i = b.take i) (ha : a[i]? = some x) (hb : b[i]? = some x) : a.take (i + 1) = b.take (i + 1) := by
  rw [List.take_add_one, List.take_add_one, ha, hb, h]
end Txt
end Go.Proofs.Ytoijmlombnnfbaa
