/-
  Plain numbers in limbs of 32 bits and in bits: no program, no world.
  Slices that read as lists of limbs, and of bits.
-/
import Derived.Test.YtmfncapgikobkaaGreatRows
import Derived.WalkKit
import Derived.WalkSpells
import Derived.WalkLawsBesides
import Derived.Deep.Draws
import Derived.Lib.Hide
import Derived.Maps.AppendAt

namespace Go.Proofs.YtmfncapgikobkaaGreat.Num
set_option maxRecDepth 100000
set_option linter.unusedVariables false
set_option linter.unusedSimpArgs false
def val : List Nat → Nat
 | [] => 0
 | x :: r => x + 4294967296 * val r
def Dig (xs : List Nat) : Prop := ∀ x ∈ xs, x < 4294967296
def Canon (xs : List Nat) : Prop := xs.getLast? ≠ some 0
def bval : List Bool → Nat
 | [] => 0
 | b :: r => b.toNat + 2 * bval r
def CanonB (bs : List Bool) : Prop := bs.getLast? ≠ some false
theorem Dig.nil : Dig [] := fun _ h => by cases h
theorem Dig.cons {x : Nat} {r : List Nat} (h : x < 4294967296) (k : Dig r) : Dig (x :: r) := fun y hy => by
 rcases List.mem_cons.1 hy with rfl | hy
 · exact h
 · exact k y hy
theorem Dig.head {x : Nat} {r : List Nat} (h : Dig (x :: r)) : x < 4294967296 := h x (by simp)
theorem Dig.tail {x : Nat} {r : List Nat} (h : Dig (x :: r)) : Dig r := fun y hy => h y (by simp [hy])
theorem Dig.append {xs ys : List Nat} (h : Dig xs) (k : Dig ys) : Dig (xs ++ ys) := fun y hy => by
 rcases List.mem_append.1 hy with hy | hy
 · exact h y hy
 · exact k y hy
theorem Dig.take {xs : List Nat} (h : Dig xs) (k : Nat) : Dig (xs.take k) := fun y hy => h y (List.mem_of_mem_take hy)
theorem Dig.drop {xs : List Nat} (h : Dig xs) (k : Nat) : Dig (xs.drop k) := fun y hy => h y (List.mem_of_mem_drop hy)
theorem Dig.getD {xs : List Nat} (h : Dig xs) (k : Nat) : xs[k]?.getD 0 < 4294967296 := by
 rcases Nat.lt_or_ge k xs.length with hk | hk
 · rw [List.getElem?_eq_getElem hk]
  exact h _ (List.getElem_mem hk)
 · rw [List.getElem?_eq_none hk]
  decide
theorem Dig.set {xs : List Nat} (h : Dig xs) (k : Nat) {u : Nat} (hu : u < 4294967296) : Dig (xs.set k u) := fun y hy => by
 rcases List.mem_or_eq_of_mem_set hy with hy | rfl
 · exact h y hy
 · exact hu
theorem Dig.replicate (n : Nat) : Dig (List.replicate n 0) := fun y hy => by
 rw [(List.mem_replicate.1 hy).2]
 decide
theorem val_append : ∀ (xs ys : List Nat), val (xs ++ ys) = val xs + 4294967296 ^ xs.length * val ys
 | [], ys => by simp [val]
 | x :: r, ys => by
  simp only [List.cons_append, val, val_append r ys, List.length_cons, Nat.pow_succ]
  rw [Nat.mul_add, Nat.mul_comm (4294967296 ^ r.length) 4294967296, Nat.mul_assoc]
  omega
theorem val_lt : ∀ {xs : List Nat}, Dig xs → val xs < 4294967296 ^ xs.length
 | [], _ => by simp [val]
 | x :: r, h => by
  have h1 := val_lt h.tail
  have h2 := h.head
  simp only [val, List.length_cons, Nat.pow_succ]
  omega
theorem val_zero (n : Nat) : val (List.replicate n 0) = 0 := by
 induction n with
 | zero => rfl
 | succ n ih => simp [List.replicate_succ, val, ih]
theorem take_succ {xs : List Nat} {k : Nat} (hk : k < xs.length) : xs.take (k + 1) = xs.take k ++ [xs[k]?.getD 0] := by
 rw [List.take_succ_eq_append_getElem hk, List.getElem?_eq_getElem hk]
 rfl
theorem val_take_succ {xs : List Nat} {k : Nat} (hk : k < xs.length) : val (xs.take (k + 1)) = val (xs.take k) + 4294967296 ^ k * xs[k]?.getD 0 := by
 rw [take_succ hk, val_append, List.length_take, Nat.min_eq_left (by omega)]
 simp [val]
theorem val_drop {xs : List Nat} {k : Nat} (hk : k < xs.length) : val (xs.drop k) = xs[k]?.getD 0 + 4294967296 * val (xs.drop (k + 1)) := by
 rw [List.drop_eq_getElem_cons hk, List.getElem?_eq_getElem hk]
 rfl
theorem val_split (xs : List Nat) (k : Nat) (hk : k ≤ xs.length) : val xs = val (xs.take k) + 4294967296 ^ k * val (xs.drop k) := by
 have h := val_append (xs.take k) (xs.drop k)
 rw [List.take_append_drop, List.length_take, Nat.min_eq_left hk] at h
 exact h
theorem canon_nil : Canon [] := by simp [Canon]
theorem Canon.tail {x : Nat} {r : List Nat} (h : Canon (x :: r)) : Canon r := by
 cases r with
 | nil => exact canon_nil
 | cons y t => simpa [Canon, List.getLast?_cons_cons] using h
theorem canon_zero : ∀ {xs : List Nat}, Canon xs → val xs = 0 → xs = []
 | [], _, _ => rfl
 | x :: r, h, hv => by
  simp only [val] at hv
  have hr := canon_zero h.tail (by omega)
  subst hr
  have : x = 0 := by omega
  subst this
  simp [Canon] at h
theorem uniq : ∀ {xs ys : List Nat}, Dig xs → Dig ys → Canon xs → Canon ys → val xs = val ys → xs = ys
 | [], ys, _, _, _, hy, he => (canon_zero hy he.symm).symm
 | x :: r, [], _, _, hx, _, he => canon_zero hx he
 | x :: r, y :: t, dx, dy, hx, hy, he => by
  simp only [val] at he
  have h1 := dx.head
  have h2 := dy.head
  have e1 : x = y := by omega
  have e2 : val r = val t := by omega
  rw [e1, uniq dx.tail dy.tail hx.tail hy.tail e2]
theorem canon_ge : ∀ {xs : List Nat}, Canon xs → xs ≠ [] → 4294967296 ^ (xs.length - 1) ≤ val xs
 | [], _, h => absurd rfl h
 | [x], h, _ => by
  have : x ≠ 0 := by intro e; subst e; simp [Canon] at h
  simp [val]
  omega
 | x :: y :: r, h, _ => by
  have h1 := canon_ge h.tail (by simp)
  simp only [List.length_cons, Nat.add_sub_cancel, val] at h1 ⊢
  rw [Nat.pow_succ]
  omega
theorem len_le {xs : List Nat} {m : Nat} (h : Canon xs) (hv : val xs < 4294967296 ^ m) : xs.length ≤ m := by
 rcases Nat.lt_or_ge m xs.length with hm | hm
 · have h1 := canon_ge h (by intro e; subst e; simp at hm)
  have h2 : 4294967296 ^ m ≤ 4294967296 ^ (xs.length - 1) := Nat.pow_le_pow_right (by decide) (by omega)
  omega
 · exact hm
theorem val_cut {xs : List Nat} {k : Nat} (hk : k ≤ xs.length) (hz : ∀ j, k ≤ j → j < xs.length → xs[j]?.getD 0 = 0) : val (xs.take k) = val xs := by
 have h0 : ∀ (n : Nat) (ys : List Nat), ys.length = n → (∀ j, j < ys.length → ys[j]?.getD 0 = 0) → val ys = 0 := by
  intro n
  induction n with
  | zero => intro ys hl _; rw [List.eq_nil_of_length_eq_zero hl]; rfl
  | succ n ih =>
   intro ys hl hy
   cases ys with
   | nil => rfl
   | cons y r =>
    have h1 := hy 0 (by simp)
    simp at h1
    have h2 := ih r (by simpa using hl) (fun j hj => by simpa using hy (j + 1) (by simpa using hj))
    simp [val, h1, h2]
 have := val_split xs k hk
 rw [h0 _ (xs.drop k) rfl (fun j hj => by rw [List.getElem?_drop]; exact hz _ (by omega) (by rw [List.length_drop] at hj; omega))] at this
 omega
theorem canon_take {xs : List Nat} {k : Nat} (hk : k < xs.length) (hn : xs[k]?.getD 0 ≠ 0) : Canon (xs.take (k + 1)) := by
 rw [take_succ hk]
 simpa [Canon] using hn
-- bits
theorem bval_append : ∀ (xs ys : List Bool), bval (xs ++ ys) = bval xs + 2 ^ xs.length * bval ys
 | [], ys => by simp [bval]
 | x :: r, ys => by
  simp only [List.cons_append, bval, bval_append r ys, List.length_cons, Nat.pow_succ]
  rw [Nat.mul_add, Nat.mul_comm (2 ^ r.length) 2, Nat.mul_assoc]
  omega
theorem bval_lt : ∀ (xs : List Bool), bval xs < 2 ^ xs.length
 | [] => by simp [bval]
 | x :: r => by
  have h1 := bval_lt r
  have h2 : x.toNat ≤ 1 := Bool.toNat_le x
  simp only [bval, List.length_cons, Nat.pow_succ]
  omega
theorem bval_false (n : Nat) : bval (List.replicate n false) = 0 := by
 induction n with
 | zero => rfl
 | succ n ih => simp [List.replicate_succ, bval, ih]
theorem btake_succ {xs : List Bool} {k : Nat} (hk : k < xs.length) : xs.take (k + 1) = xs.take k ++ [xs[k]?.getD false] := by
 rw [List.take_succ_eq_append_getElem hk, List.getElem?_eq_getElem hk]
 rfl
theorem bval_take_succ {xs : List Bool} {k : Nat} (hk : k < xs.length) : bval (xs.take (k + 1)) = bval (xs.take k) + 2 ^ k * (xs[k]?.getD false).toNat := by
 rw [btake_succ hk, bval_append, List.length_take, Nat.min_eq_left (by omega)]
 simp [bval]
theorem bval_split (xs : List Bool) (k : Nat) (hk : k ≤ xs.length) : bval xs = bval (xs.take k) + 2 ^ k * bval (xs.drop k) := by
 have h := bval_append (xs.take k) (xs.drop k)
 rw [List.take_append_drop, List.length_take, Nat.min_eq_left hk] at h
 exact h
theorem bval_testBit : ∀ (xs : List Bool) (i : Nat), (bval xs).testBit i = xs[i]?.getD false
 | [], i => by simp [bval]
 | x :: r, 0 => by
  cases x <;> simp [bval, Nat.testBit_zero]
 | x :: r, i + 1 => by
  have : (x.toNat + 2 * bval r) / 2 = bval r := by have := Bool.toNat_le x; omega
  simp only [bval, Nat.testBit_succ, this, bval_testBit r i, List.getElem?_cons_succ]
theorem bval_cut {xs : List Bool} {k : Nat} (hk : k < xs.length) (hz : xs[k]?.getD false = false) : bval (xs.take (k + 1)) = bval (xs.take k) := by
 rw [bval_take_succ hk, hz]
 simp
theorem canonB_zero : ∀ {xs : List Bool}, CanonB xs → bval xs = 0 → xs = []
 | [], _, _ => rfl
 | [x], h, hv => by
  cases x
  · simp [CanonB] at h
  · simp [bval] at hv
 | x :: y :: r, h, hv => by
  have h' : CanonB (y :: r) := by simpa [CanonB, List.getLast?_cons_cons] using h
  simp only [bval] at hv
  have := canonB_zero h' (by simp only [bval]; omega)
  simp at this
theorem CanonB.tail {x : Bool} {r : List Bool} (h : CanonB (x :: r)) : CanonB r := by
 cases r with
 | nil => simp [CanonB]
 | cons y t => simpa [CanonB, List.getLast?_cons_cons] using h
theorem canonB_ge : ∀ {xs : List Bool}, CanonB xs → xs ≠ [] → 2 ^ (xs.length - 1) ≤ bval xs
 | [], _, h => absurd rfl h
 | [x], h, _ => by
  cases x
  · simp [CanonB] at h
  · simp [bval]
 | x :: y :: r, h, _ => by
  have h1 := canonB_ge h.tail (by simp)
  simp only [List.length_cons, Nat.add_sub_cancel, bval] at h1 ⊢
  rw [Nat.pow_succ]
  omega
theorem lenB_le {xs : List Bool} {m : Nat} (h : CanonB xs) (hv : bval xs < 2 ^ m) : xs.length ≤ m := by
 rcases Nat.lt_or_ge m xs.length with hm | hm
 · have h1 := canonB_ge h (by intro e; subst e; simp at hm)
  have h2 : 2 ^ m ≤ 2 ^ (xs.length - 1) := Nat.pow_le_pow_right (by decide) (by omega)
  omega
 · exact hm
def blen (n : Nat) : Nat := if n = 0 then 0 else Nat.log2 n + 1
theorem lt_blen (n : Nat) : n < 2 ^ blen n := by
 unfold blen
 by_cases h : n = 0
 · simp [h]
 · simp only [h, if_false]; exact Nat.lt_log2_self
theorem blen_ge {n : Nat} (h : n ≠ 0) : 2 ^ (blen n - 1) ≤ n := by
 unfold blen
 simp only [h, if_false, Nat.add_sub_cancel]
 exact Nat.log2_self_le h
theorem blen_eq {n m : Nat} (h1 : n < 2 ^ m) (h2 : m = 0 ∨ 2 ^ (m - 1) ≤ n) : blen n = m := by
 by_cases h : n = 0
 · subst h
  rcases h2 with rfl | h2
  · rfl
  · have := Nat.two_pow_pos (m - 1); omega
 · have a := lt_blen n
  have b := blen_ge h
  have hb : 0 < blen n := by unfold blen; simp [h]
  rcases Nat.lt_trichotomy (blen n) m with hlt | he | hgt
  · rcases h2 with rfl | h2
   · omega
   · have : 2 ^ blen n ≤ 2 ^ (m - 1) := Nat.pow_le_pow_right (by decide) (by omega)
    omega
  · exact he
  · have : 2 ^ m ≤ 2 ^ (blen n - 1) := Nat.pow_le_pow_right (by decide) (by omega)
   omega
theorem blen_div {x k : Nat} (h : 2 ^ k ≤ x) : blen x = k + blen (x / 2 ^ k) := by
 have hp := Nat.two_pow_pos k
 have hq : x / 2 ^ k ≠ 0 := Nat.ne_of_gt (Nat.div_pos h hp)
 have a := lt_blen (x / 2 ^ k)
 have b := blen_ge hq
 have hb : 0 < blen (x / 2 ^ k) := by unfold blen; simp [hq]
 refine blen_eq ?_ (.inr ?_)
 · rw [Nat.pow_add, Nat.mul_comm]
  exact (Nat.div_lt_iff_lt_mul hp).1 a
 · rw [show k + blen (x / 2 ^ k) - 1 = (blen (x / 2 ^ k) - 1) + k from by omega, Nat.pow_add]
  exact (Nat.le_div_iff_mul_le hp).1 b
def cmpN (a b : Nat) : Int := if a < b then -1 else if a = b then 0 else 1
theorem lt_of_len {xs ys : List Nat} (dx : Dig xs) (hy : Canon ys) (h : xs.length < ys.length) : val xs < val ys := by
 have h1 := val_lt dx
 have h2 := canon_ge hy (by intro e; subst e; simp at h)
 have h3 : 4294967296 ^ xs.length ≤ 4294967296 ^ (ys.length - 1) := Nat.pow_le_pow_right (by decide) (by omega)
 omega
theorem cmp_at {xs ys : List Nat} {i : Nat} (dx : Dig xs) (dy : Dig ys) (hl : xs.length = ys.length) (hi : i < xs.length) (hs : ∀ j, i < j → j < xs.length → xs[j]?.getD 0 = ys[j]?.getD 0) (hne : xs[i]?.getD 0 ≠ ys[i]?.getD 0) :
  cmpN (val xs) (val ys) = cmpN (xs[i]?.getD 0) (ys[i]?.getD 0) := by
 have e : xs.drop (i + 1) = ys.drop (i + 1) := by
  refine List.ext_getElem (by simp [hl]) fun j h1 h2 => ?_
  rw [List.length_drop] at h1 h2
  have := hs (i + 1 + j) (by omega) (by omega)
  rw [List.getElem?_eq_getElem (by omega), List.getElem?_eq_getElem (by omega)] at this
  simpa using this
 have sx := val_split xs i (by omega)
 have sy := val_split ys i (by omega)
 rw [val_drop hi] at sx
 rw [val_drop (by omega : i < ys.length), ← e] at sy
 have lx := val_lt (dx.take i)
 have ly := val_lt (dy.take i)
 rw [List.length_take, Nat.min_eq_left (by omega)] at lx ly
 generalize val (xs.drop (i + 1)) = r at *
 generalize xs[i]?.getD 0 = x at *
 generalize ys[i]?.getD 0 = y at *
 generalize 4294967296 ^ i = p at *
 rw [Nat.mul_add] at sx sy
 unfold cmpN
 rcases Nat.lt_or_ge x y with h | h
 · have : p * (x + 1) ≤ p * y := Nat.mul_le_mul_left _ h
  rw [Nat.mul_add] at this
  rw [if_pos h, if_pos (by omega)]
 · have h' : y < x := by omega
  have : p * (y + 1) ≤ p * x := Nat.mul_le_mul_left _ h'
  rw [Nat.mul_add] at this
  rw [if_neg (by omega), if_neg (by omega), if_neg (by omega), if_neg (by omega)]
theorem cmp_same {xs ys : List Nat} (hl : xs.length = ys.length) (hs : ∀ j, j < xs.length → xs[j]?.getD 0 = ys[j]?.getD 0) : xs = ys := by
 refine List.ext_getElem hl fun j h1 h2 => ?_
 have := hs j h1
 rwa [List.getElem?_eq_getElem h1, List.getElem?_eq_getElem h2] at this
end Go.Proofs.YtmfncapgikobkaaGreat.Num

namespace Go.Proofs.YtmfncapgikobkaaGreat
set_option maxRecDepth 100000
set_option linter.unusedVariables false
set_option linter.unusedSimpArgs false
open Go.RowKit Num
def Rd (w : World) (A : Option Addr) (c : Nat) (vs : List Value) : Prop :=
 vs.length ≤ c ∧ c ≤ maxLen ∧ (0 < vs.length → ∃ b off, A = some ⟨b, off, none⟩ ∧ b < w.heap.size ∧ ∀ j u, vs[j]? = some u → w.cell? ⟨b, off + j, none⟩ = some u)
abbrev u32v (x : Nat) : Value := .int .u32 (x : Int)
def Us (w : World) (A : Option Addr) (c : Nat) (xs : List Nat) : Prop := Dig xs ∧ Rd w A c (xs.map u32v)
def Bl (w : World) (A : Option Addr) (c : Nat) (bs : List Bool) : Prop := Rd w A c (bs.map Value.bool)
theorem Rd.below {w w' : World} {A : Option Addr} {c : Nat} {vs : List Value} (h : Rd w A c vs) (hb : Below w.heap.size w w') : Rd w' A c vs :=
 ⟨h.1, h.2.1, fun hn => by
  obtain ⟨b, off, e, hlt, hc⟩ := h.2.2 hn
  exact ⟨b, off, e, Nat.lt_of_lt_of_le hlt hb.size, fun j u hu => (hb.cell (p := ⟨b, off + j, none⟩) hlt).trans (hc j u hu)⟩⟩
theorem Us.below {w w' : World} {A : Option Addr} {c : Nat} {xs : List Nat} (h : Us w A c xs) (hb : Below w.heap.size w w') : Us w' A c xs := ⟨h.1, h.2.below hb⟩
theorem Bl.below {w w' : World} {A : Option Addr} {c : Nat} {bs : List Bool} (h : Bl w A c bs) (hb : Below w.heap.size w w') : Bl w' A c bs := Rd.below h hb
theorem Rd.nil (w : World) : Rd w none 0 [] := ⟨Nat.le_refl _, by simp [maxLen], fun h => absurd h (by simp)⟩
theorem Us.nil (w : World) : Us w none 0 [] := ⟨Dig.nil, Rd.nil w⟩
theorem Us.cap {w : World} {A : Option Addr} {c : Nat} {xs : List Nat} (h : Us w A c xs) : xs.length ≤ c ∧ c ≤ 9223372036854775807 := by
 have h1 := h.2.1
 have h2 := h.2.2.1
 simp only [maxLen, List.length_map] at h1 h2
 exact ⟨h1, by omega⟩
theorem Bl.cap {w : World} {A : Option Addr} {c : Nat} {xs : List Bool} (h : Bl w A c xs) : xs.length ≤ c ∧ c ≤ 9223372036854775807 := by
 have h1 := h.1
 have h2 := h.2.1
 simp only [maxLen, List.length_map] at h1 h2
 exact ⟨h1, by omega⟩
theorem Us.at_ {w : World} {A : Option Addr} {c : Nat} {xs : List Nat} (h : Us w A c xs) (hn : 0 < xs.length) :
  ∃ b off, A = some ⟨b, off, none⟩ ∧ b < w.heap.size ∧ ∀ j, j < xs.length → w.cell? ⟨b, off + j, none⟩ = some (.int .u32 (xs[j]?.getD 0 : Nat)) := by
 obtain ⟨b, off, e, hb, hc⟩ := h.2.2.2 (by simpa using hn)
 exact ⟨b, off, e, hb, fun j hj => hc j _ (by simp [List.getElem?_eq_getElem hj])⟩
theorem Bl.at_ {w : World} {A : Option Addr} {c : Nat} {xs : List Bool} (h : Bl w A c xs) (hn : 0 < xs.length) :
  ∃ b off, A = some ⟨b, off, none⟩ ∧ b < w.heap.size ∧ ∀ j, j < xs.length → w.cell? ⟨b, off + j, none⟩ = some (.bool (xs[j]?.getD false)) := by
 obtain ⟨b, off, e, hb, hc⟩ := h.2.2 (by simpa using hn)
 exact ⟨b, off, e, hb, fun j hj => hc j _ (by simp [List.getElem?_eq_getElem hj])⟩
theorem Rd.own {w : World} {base : Nat} {e : TypeId} {A : Option Addr} {n c : Nat} {vs : List Value} (h : w.ownsRow base e 1 (.slice A n c) n vs) : Rd w A c vs := by
 have hl : vs.length = n := by simpa using h.1
 rcases h.2 with ⟨h', hn⟩ | ⟨g, cap, cur, h', hb, hg, hnc, hcm, hcs, htake⟩
 · simp only [Value.slice.injEq] at h'
  obtain ⟨rfl, rfl, rfl⟩ := h'
  exact ⟨by omega, by simp [maxLen], fun h => by omega⟩
 · simp only [Value.slice.injEq, true_and] at h'
  obtain ⟨rfl, rfl⟩ := h'
  refine ⟨by omega, hcm, fun hn => ⟨g, 0, rfl, ?_, fun j u hu => ?_⟩⟩
  · rcases Nat.lt_or_ge g w.heap.size with hlt | hge
   · exact hlt
   · rw [Array.getElem?_eq_none hge] at hg; cases hg
  · rw [Nat.zero_add]
   have hj : j < vs.length := by
    rcases Nat.lt_or_ge j vs.length with hlt | hge
    · exact hlt
    · rw [List.getElem?_eq_none hge] at hu; cases hu
   exact (h.cellAt j (by omega)).trans hu
theorem own_shape {w : World} {base : Nat} {e : TypeId} {v : Value} {n : Nat} {vs : List Value} (h : w.ownsRow base e 1 v n vs) : ∃ A c, v = .slice A n c := by
 rcases h.2 with ⟨rfl, rfl⟩ | ⟨g, cap, cur, rfl, _⟩
 · exact ⟨_, _, rfl⟩
 · exact ⟨_, _, rfl⟩
theorem below_drewN {B : Nat} {a w : World} (h : Below B a w) (n : Nat) : Below B a (w.drewN n) := ⟨h.os, h.tape, h.output, h.size, h.block⟩
theorem cell_new_l (w : World) (v : Value) (t : TypeId) : (w.alloc (.cells #[v] t)).cell? ⟨w.heap.size, 0, none⟩ = some v ∧ (w.alloc (.cells #[v] t)).frozen? ⟨w.heap.size, 0, none⟩ = false := by
 have h := heap_alloc_new w (.cells #[v] t)
 exact ⟨by rw [cell_of_row _ _ _ _ _ _ h]; rfl, frozen_of_row _ _ _ _ _ h⟩
theorem lt_of_cell {w : World} {p : Addr} {v : Value} (h : w.cell? p = some v) : p.block < w.heap.size := by
 rcases Nat.lt_or_ge p.block w.heap.size with hlt | hge
 · exact hlt
 · simp [World.cell?, Array.getElem?_eq_none hge] at h
theorem cell_alloc_l {w : World} {p : Addr} {v : Value} (o : Obj) (h : w.cell? p = some v) : (w.alloc o).cell? p = some v := (World.cell?_alloc_lt w o p (lt_of_cell h)).trans h
theorem frozen_alloc_l {w : World} {p : Addr} {v : Value} {b : Bool} (o : Obj) (h : w.cell? p = some v) (hf : w.frozen? p = b) : (w.alloc o).frozen? p = b :=
 (World.frozen?_of_block (Below.heap_alloc w o p.block (lt_of_cell h))).trans hf
def RetU (n : Nat) (w : World) (e : Ending) (w' : World) : Prop :=
 ∃ A c rs, e = .returned (.slice A rs.length c) ∧ Us w' A c rs ∧ Canon rs ∧ val rs = n ∧ Below w.heap.size w w'
def RetB (n : Nat) (w : World) (e : Ending) (w' : World) : Prop :=
 ∃ A c bs, e = .returned (.slice A bs.length c) ∧ Bl w' A c bs ∧ CanonB bs ∧ bval bs = n ∧ Below w.heap.size w w'
def RetD (q r : Nat) (w : World) (e : Ending) (w' : World) : Prop :=
 ∃ A c rs, e = .returned (.tuple #[.slice A rs.length c, .int .u32 (r : Int)]) ∧ Us w' A c rs ∧ Canon rs ∧ val rs = q ∧ Below w.heap.size w w'
theorem Tryz.infoU : (Tryz.prog.info? 89).map (fun i => (i.zero, i.size, i.bytes)) = some (some (.int .u32 0), 1, 4) := by kernel_rfl
theorem Tryz.infoB : (Tryz.prog.info? 4).map (fun i => (i.zero, i.size, i.bytes)) = some (some (.bool false), 1, 1) := by kernel_rfl
end Go.Proofs.YtmfncapgikobkaaGreat
