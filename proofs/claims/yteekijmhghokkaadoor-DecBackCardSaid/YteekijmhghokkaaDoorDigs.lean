/-
  Decimal digits and the texts of numbers: no program, no world.
-/


namespace Go.Proofs.YteekijmhghokkaaDoor.Digs
set_option linter.unusedVariables false
set_option linter.unusedSimpArgs false
/-- A byte is a decimal digit. -/
def isd (b : UInt8) : Bool := decide (48 ≤ b.toNat ∧ b.toNat ≤ 57)
/-- The digit's byte. -/
def dig (d : Nat) : UInt8 := UInt8.ofNat (48 + d)
theorem dig_nat {d : Nat} (h : d < 10) : (dig d).toNat = 48 + d := by
  unfold dig
  simp
  omega
theorem isd_dig {d : Nat} (h : d < 10) : isd (dig d) = true := by
  unfold isd
  rw [dig_nat h]
  simp
  omega
theorem isd_iff {b : UInt8} : isd b = true ↔ ∃ d, d < 10 ∧ b = dig d := by
  constructor
  · intro h
    unfold isd at h
    simp at h
    refine ⟨b.toNat - 48, by omega, ?_⟩
    unfold dig
    rw [show 48 + (b.toNat - 48) = b.toNat by omega]
    simp
  · rintro ⟨d, hd, rfl⟩
    exact isd_dig hd
theorem dig_inj {d e : Nat} (h : d < 10) (k : e < 10) (he : dig d = dig e) : d = e := by
  have h1 := dig_nat h
  have h2 := dig_nat k
  rw [he] at h1
  omega
theorem dig_ne_minus {d : Nat} (h : d < 10) : dig d ≠ 45 := by
  intro e
  have h1 := dig_nat h
  rw [e] at h1
  change 45 = 48 + d at h1
  omega
/-- The k lowest digits of n, the lowest one first. -/
def low : Nat → Nat → List UInt8
  | 0, _ => []
  | k + 1, n => dig (n % 10) :: low k (n / 10)
theorem low_length : ∀ (k n : Nat), (low k n).length = k
  | 0, _ => rfl
  | k + 1, n => by simp [low, low_length k]
theorem low_add : ∀ (j k n : Nat), low (j + k) n = low j n ++ low k (n / 10 ^ j)
  | 0, k, n => by simp [low]
  | j + 1, k, n => by
    rw [show j + 1 + k = (j + k) + 1 by omega]
    simp only [low, List.cons_append]
    rw [low_add j k (n / 10), Nat.div_div_eq_div_mul, Nat.pow_succ, Nat.mul_comm 10]
theorem low_snoc (k n : Nat) : low (k + 1) n = low k n ++ [dig (n / 10 ^ k % 10)] := by
  rw [low_add k 1 n]
  rfl
theorem low_isd : ∀ (k n : Nat), ∀ b ∈ low k n, isd b = true
  | 0, _, b, h => by cases h
  | k + 1, n, b, h => by
    rcases List.mem_cons.1 h with rfl | h
    · exact isd_dig (Nat.mod_lt _ (by decide))
    · exact low_isd k _ b h
/-- Only what is below counts. -/
theorem low_mod : ∀ (k n m : Nat), low k (n + 10 ^ k * m) = low k n
  | 0, _, _ => rfl
  | k + 1, n, m => by
    simp only [low]
    have e : n + 10 ^ (k + 1) * m = n + 10 * (10 ^ k * m) := by rw [Nat.pow_succ, Nat.mul_comm (10 ^ k) 10, Nat.mul_assoc]
    rw [e, Nat.add_mul_mod_self_left, Nat.add_mul_div_left _ _ (by decide), low_mod k]
/-- The number of digits, the first one the highest. -/
def num (l : List UInt8) : Nat := l.foldl (fun a b => a * 10 + (b.toNat - 48)) 0
theorem num_snoc (l : List UInt8) (b : UInt8) : num (l ++ [b]) = num l * 10 + (b.toNat - 48) := by
  unfold num
  rw [List.foldl_append]
  rfl
/-- How many digits a number has (0 has none here). -/
def size (n : Nat) : Nat := if n = 0 then 0 else size (n / 10) + 1
theorem size_zero : size 0 = 0 := by unfold size; simp
theorem size_pos {n : Nat} (h : 0 < n) : size n = size (n / 10) + 1 := by
  rw [size, if_neg (by omega)]
theorem size_lt (n : Nat) : n < 10 ^ size n := by
  induction n using Nat.strongRecOn with
  | ind n ih =>
    rcases Nat.eq_zero_or_pos n with rfl | hn
    · rw [size_zero]; decide
    · rw [size_pos hn, Nat.pow_succ]
      have := ih (n / 10) (by omega)
      omega
theorem size_ge {n : Nat} (h : 0 < n) : 10 ^ (size n - 1) ≤ n := by
  induction n using Nat.strongRecOn with
  | ind n ih =>
    rw [size_pos h, Nat.add_sub_cancel]
    rcases Nat.eq_zero_or_pos (n / 10) with h0 | h0
    · rw [h0, size_zero]; exact h
    · have h1 := ih (n / 10) (by omega) h0
      have h2 := size_pos h0
      have h3 : 10 ^ size (n / 10) = 10 ^ (size (n / 10) - 1) * 10 := by rw [← Nat.pow_succ]; congr 1; omega
      omega
theorem size_le {n k : Nat} (h : n < 10 ^ k) : size n ≤ k := by
  rcases Nat.eq_zero_or_pos n with rfl | hn
  · rw [size_zero]; exact Nat.zero_le _
  · have h1 := size_ge hn
    rcases Nat.lt_or_ge k (size n) with hk | hk
    · have h2 : 10 ^ k ≤ 10 ^ (size n - 1) := Nat.pow_le_pow_right (by decide) (by omega)
      omega
    · exact hk
theorem size_eq {n k : Nat} (h : n < 10 ^ (k + 1)) (h2 : 10 ^ k ≤ n) : size n = k + 1 := by
  have h3 := size_le h
  have h4 := size_lt n
  rcases Nat.lt_or_ge k (size n) with hk | hk
  · omega
  · have : 10 ^ size n ≤ 10 ^ k := Nat.pow_le_pow_right (by decide) hk
    omega
/-- A number's digits, the highest one first; 0 has one. -/
def digs (n : Nat) : List UInt8 := if n = 0 then [48] else (low (size n) n).reverse
/-- The text of a number. -/
def text (s : Bool) (n : Nat) : List UInt8 := if s then 45 :: digs n else digs n
theorem num_low : ∀ (k n : Nat), num (low k n).reverse = n % 10 ^ k
  | 0, n => by simp [low, num]; omega
  | k + 1, n => by
    simp only [low, List.reverse_cons]
    rw [num_snoc, num_low k, dig_nat (Nat.mod_lt _ (by decide)), Nat.pow_succ, Nat.mul_comm (10 ^ k) 10, Nat.mod_mul]
    omega
theorem num_digs (n : Nat) : num (digs n) = n := by
  unfold digs
  split
  · rename_i h; rw [h]; rfl
  · rw [num_low, Nat.mod_eq_of_lt (size_lt n)]
/-- The number of digits is below. -/
theorem num_lt : ∀ (l : List UInt8), (∀ b ∈ l, isd b = true) → num l < 10 ^ l.length := by
  intro l
  induction h : l.length generalizing l with
  | zero => intro _; rw [List.eq_nil_of_length_eq_zero h]; decide
  | succ k ih =>
    intro hd
    have hne : l ≠ [] := by intro e; subst e; simp at h
    obtain ⟨r, b, rfl⟩ : ∃ r b, l = r ++ [b] := ⟨_, _, (List.dropLast_concat_getLast hne).symm⟩
    have h1 := ih r (by simpa using h) (fun x hx => hd x (by simp [hx]))
    obtain ⟨d, hd2, rfl⟩ := isd_iff.1 (hd b (by simp))
    rw [num_snoc, dig_nat hd2, Nat.pow_succ]
    omega
theorem low_num : ∀ (l : List UInt8), (∀ b ∈ l, isd b = true) → (low l.length (num l)).reverse = l := by
  intro l
  induction h : l.length generalizing l with
  | zero => intro _; rw [List.eq_nil_of_length_eq_zero h]; rfl
  | succ k ih =>
    intro hd
    have hne : l ≠ [] := by intro e; subst e; simp at h
    obtain ⟨r, b, rfl⟩ : ∃ r b, l = r ++ [b] := ⟨_, _, (List.dropLast_concat_getLast hne).symm⟩
    have h1 := ih r (by simpa using h) (fun x hx => hd x (by simp [hx]))
    obtain ⟨d, hd2, rfl⟩ := isd_iff.1 (hd b (by simp))
    rw [num_snoc, dig_nat hd2]
    simp only [low, List.reverse_cons]
    rw [show (num r * 10 + (48 + d - 48)) / 10 = num r by omega, show (num r * 10 + (48 + d - 48)) % 10 = d by omega, h1]
theorem low_zero : ∀ k, low k 0 = List.replicate k 48
  | 0 => rfl
  | k + 1 => by simp only [low, Nat.zero_mod, Nat.zero_div, low_zero k, List.replicate_succ]; rfl
/-- The noughts ahead of a number. -/
theorem low_size {n k : Nat} (h : n < 10 ^ k) : low k n = low (size n) n ++ List.replicate (k - size n) 48 := by
  have h1 := size_le h
  obtain ⟨j, hj⟩ : ∃ j, k = size n + j := ⟨k - size n, by omega⟩
  rw [hj, low_add, Nat.div_eq_of_lt (size_lt n), low_zero, Nat.add_sub_cancel_left]
theorem low_last {n : Nat} (h : 0 < n) : ∃ r d, low (size n) n = r ++ [dig d] ∧ 0 < d ∧ d < 10 := by
  have h1 := size_pos h
  have h2 := size_ge h
  have h3 := size_lt n
  obtain ⟨k, hk⟩ : ∃ k, size n = k + 1 := ⟨_, h1⟩
  rw [hk, low_snoc]
  refine ⟨_, _, rfl, ?_, Nat.mod_lt _ (by decide)⟩
  rw [hk] at h2 h3
  rw [Nat.add_sub_cancel] at h2
  rw [Nat.pow_succ] at h3
  have h4 : n / 10 ^ k < 10 := by rw [Nat.div_lt_iff_lt_mul (Nat.pow_pos (by decide))]; omega
  have h5 : 1 ≤ n / 10 ^ k := (Nat.le_div_iff_mul_le (Nat.pow_pos (by decide))).2 (by omega)
  omega
theorem digs_pos {n : Nat} (h : 0 < n) : ∃ r d, digs n = dig d :: r ∧ 0 < d ∧ d < 10 := by
  obtain ⟨r, d, h1, h2, h3⟩ := low_last h
  refine ⟨r.reverse, d, ?_, h2, h3⟩
  unfold digs
  rw [if_neg (by omega), h1]
  simp
theorem digs_isd (n : Nat) : ∀ b ∈ digs n, isd b = true := by
  unfold digs
  split
  · intro b hb; simp at hb; subst hb; rfl
  · intro b hb; exact low_isd _ _ b (by simpa using hb)
theorem digs_length_pos {n : Nat} (h : 0 < n) : (digs n).length = size n := by
  unfold digs
  rw [if_neg (by omega)]
  simp [low_length]
theorem digs_length_le {n k : Nat} (h : n < 10 ^ k) (hk : 0 < k) : (digs n).length ≤ k := by
  rcases Nat.eq_zero_or_pos n with rfl | hn
  · unfold digs; exact hk
  · rw [digs_length_pos hn]; exact size_le h
/-- A text that is a number's: not empty, digits, the first one no nought. -/
def IsNum (l : List UInt8) : Prop := l = [48] ∨ (∃ d r, l = dig d :: r ∧ 0 < d ∧ d < 10 ∧ ∀ b ∈ r, isd b = true)
theorem isNum_digs (n : Nat) : IsNum (digs n) := by
  rcases Nat.eq_zero_or_pos n with rfl | h
  · left; rfl
  · obtain ⟨r, d, h1, h2, h3⟩ := digs_pos h
    right
    exact ⟨d, r, h1, h2, h3, fun b hb => digs_isd n b (by rw [h1]; simp [hb])⟩
theorem num_cons_ge : ∀ (r : List UInt8) (d : Nat), 0 < d → d < 10 → 10 ^ r.length ≤ num (dig d :: r) := by
  intro r
  induction h : r.length generalizing r with
  | zero =>
    intro d h0 h1
    rw [List.eq_nil_of_length_eq_zero h]
    unfold num
    simp [dig_nat h1]
    omega
  | succ k ih =>
    intro d h0 h1
    have hne : r ≠ [] := by intro e; subst e; simp at h
    obtain ⟨q, b, rfl⟩ : ∃ q b, r = q ++ [b] := ⟨_, _, (List.dropLast_concat_getLast hne).symm⟩
    have h2 := ih q (by simpa using h) d h0 h1
    rw [← List.cons_append, num_snoc, Nat.pow_succ]
    omega
/-- Numbers' texts come back. -/
theorem digs_num {l : List UInt8} (h : IsNum l) : digs (num l) = l := by
  rcases h with rfl | ⟨d, r, rfl, h0, h1, hr⟩
  · rfl
  · have h2 := num_cons_ge r d h0 h1
    have h3 : ∀ b ∈ dig d :: r, isd b = true := fun b hb => by
      rcases List.mem_cons.1 hb with rfl | hb
      · exact isd_dig h1
      · exact hr b hb
    have h4 := num_lt _ h3
    have h5 : size (num (dig d :: r)) = (dig d :: r).length := by
      rw [List.length_cons] at h4 ⊢
      exact size_eq h4 h2
    have h6 : 0 < 10 ^ r.length := Nat.pow_pos (by decide)
    unfold digs
    rw [if_neg (by omega), h5, low_num _ h3]
/-- One more digit. -/
theorem digs_ten {n k : Nat} (hn : 0 < n) (hk : k < 10) : digs (n * 10 + k) = digs n ++ [dig k] := by
  have h1 : size (n * 10 + k) = size n + 1 := by rw [size_pos (by omega), show (n * 10 + k) / 10 = n by omega]
  unfold digs
  rw [if_neg (by omega), if_neg (by omega), h1]
  simp only [low, List.reverse_cons]
  rw [show (n * 10 + k) / 10 = n by omega, show (n * 10 + k) % 10 = k by omega]
/-- How many digits stand at the beginning. -/
def lead (l : List UInt8) : Nat := (l.takeWhile isd).length
def leadAt (l : List UInt8) (at_ : Int) : Nat := if 0 ≤ at_ ∧ at_ ≤ l.length then lead (l.drop at_.toNat) else 0
theorem lead_all {l : List UInt8} : lead l = l.length ↔ ∀ b ∈ l, isd b = true := by
  unfold lead
  induction l with
  | nil => simp
  | cons x r ih =>
    by_cases hx : isd x = true
    · rw [List.takeWhile_cons_of_pos hx]
      simp [hx, ih]
    · rw [List.takeWhile_cons_of_neg hx]
      simp [hx]
/-- It is k, if the first k are digits and there is no further one. -/
theorem lead_eq {l : List UInt8} {k : Nat} (hk : k ≤ l.length) (h : ∀ b ∈ l.take k, isd b = true) (he : ∀ b, l[k]? = some b → isd b = false) : lead l = k := by
  unfold lead
  induction k generalizing l with
  | zero =>
    cases l with
    | nil => rfl
    | cons x r => rw [List.takeWhile_cons_of_neg (by rw [he x rfl]; simp)]; rfl
  | succ k ih =>
    cases l with
    | nil => simp at hk
    | cons x r =>
      rw [List.takeWhile_cons_of_pos (h x (by simp)), List.length_cons, ih (by simpa using hk) (fun b hb => h b (by simp [hb])) (fun b hb => he b (by simpa using hb))]
end Go.Proofs.YteekijmhghokkaaDoor.Digs
