/-
  The reference's Add.
-/
import Derived.Test.YthkeehfoefjnfaaRCmp
namespace Go.Proofs.Ythkeehfoefjnfaa
set_option linter.unusedVariables false
set_option linter.unusedSimpArgs false
open Go.RowKit Num

theorem bval_take_getD {xs : List Bool} (k : Nat) : bval (xs.take (k + 1)) = bval (xs.take k) + 2 ^ k * (xs[k]?.getD false).toNat := by
  rcases Nat.lt_or_ge k xs.length with h | h
  · exact bval_take_succ h
  · rw [List.take_of_length_le (by omega), List.take_of_length_le (by omega), List.getElem?_eq_none h]
    simp

/-- After k rounds. -/
def RAddRel (k : Nat) (bs ds : List Bool) (w : World) (cy : Bool) (v : Value) (wr : World) : Prop :=
  ∃ os, OutB wr w.heap.size v os ∧ os.length = k ∧ bval os + 2 ^ k * cy.toNat = bval (bs.take k) + bval (ds.take k) ∧ Below w.heap.size w wr
theorem RAddRel.next {k : Nat} {bs ds : List Bool} {w wr w1 : World} {cy : Bool} {v v' : Value} {os : List Bool} {o : Obj} (h0 : OutB wr w.heap.size v os) (h1 : os.length = k) (h2 : bval os + 2 ^ k * cy.toNat = bval (bs.take k) + bval (ds.take k)) (h4 : Below w.heap.size w wr)
    {x y b cy' : Bool} (hx : x = bs[k]?.getD false) (hy : y = ds[k]?.getD false) (hb : b = ((x.toNat + y.toNat + cy.toNat) % 2 == 1)) (hc : cy' = decide (1 < x.toNat + y.toNat + cy.toNat))
    (hown : w1.ownsRow w.heap.size 4 1 v' (os.length + 1) (os.map Value.bool ++ [.bool b])) (hg : (wr.alloc o).grownBy w1 v.ownBlock) : RAddRel (k + 1) bs ds w cy' v' w1 := by
  obtain ⟨k1, k2⟩ := h0.snoc h4 (Nat.le_refl _) hown hg
  refine ⟨_, k1, by rw [List.length_append, h1]; rfl, ?_, k2⟩
  rw [bval_append, h1, bval_take_getD k, bval_take_getD k, ← hx, ← hy, Nat.pow_succ]
  generalize 2 ^ k = p at *
  have e : (bval [b]) + 2 * cy'.toNat = x.toNat + y.toNat + cy.toNat := by
    rw [hb, hc]
    cases x <;> cases y <;> cases cy <;> rfl
  have e2 : p * bval [b] + p * (2 * cy'.toNat) = p * x.toNat + p * y.toNat + p * cy.toNat := by rw [← Nat.mul_add, e, Nat.mul_add, Nat.mul_add]
  rw [Nat.mul_assoc]
  omega
theorem RAddRel.last {k : Nat} {bs ds os : List Bool} {cy : Bool} (h1 : os.length = k) (h2 : bval os + 2 ^ k * cy.toNat = bval (bs.take k) + bval (ds.take k)) (hb : bs.length < k) (hd : ds.length < k) : bval os = bval bs + bval ds := by
  rw [List.take_of_length_le (by omega), List.take_of_length_le (by omega)] at h2
  have l1 := bval_lt bs
  have l2 := bval_lt ds
  have p1 : 2 ^ bs.length ≤ 2 ^ (k - 1) := Nat.pow_le_pow_right (by decide) (by omega)
  have p2 : 2 ^ ds.length ≤ 2 ^ (k - 1) := Nat.pow_le_pow_right (by decide) (by omega)
  have p3 : 2 ^ k = 2 ^ (k - 1) * 2 := by rw [← Nat.pow_succ]; congr 1; omega
  cases cy
  · simpa using h2
  · simp at h2; omega

set_option maxRecDepth 100000 in
set_option maxHeartbeats 4000000 in
theorem radd_any (A B : Option Addr) (c d : Nat) (xs ys : List Nat) (w : World) (h : Us w A c xs) (k : Us w B d ys) (hx : xs.length ≤ 1000000) (hy : ys.length ≤ 1000000) :
    Calls Try.prog 15 #[.slice A xs.length c, .slice B ys.length d] w (RetU (val xs + val ys) w) := by
  obtain ⟨i0, hi, hz0, hz1, hz2⟩ := info_parts Try.infoB
  have HI := Lib.hid (And.intro hi (And.intro hz0 (And.intro hz1 hz2)))
  have H1 := Lib.hid h
  have H2 := Lib.hid k
  have hd := h.1
  have hd2 := k.1
  clear h k hi hz0 hz1 hz2
  go_enter Try.func15, Try.ntmps15
  go_upto_region 2 with (first
    | (go_at_call_of 61 (Value.slice A xs.length c); refine (bits_any A c xs _ H1.out hx).mono ?_; rintro e w1 ⟨A1, c1, bs, rfl, q1, k1, v1, b1⟩)
    | (go_at_call_of 61 (Value.slice B ys.length d); refine (bits_any B d ys _ (H2.out.below b1) hy).mono ?_; rintro e w2 ⟨A2, c2, ds, rfl, q2, k2, v2, b2⟩))
  have l1 := bits_len hd k1 v1
  have l2 := bits_len hd2 k2 v2
  have Q1 := Lib.hid (q1.below b2)
  have Q2 := Lib.hid q2
  have V := Lib.hid (And.intro v1 v2)
  have BB := Lib.hid (b1.trans (b2.mono b1.size))
  clear q1 q2 k1 k2 v1 v2 b1 b2 hd hd2 H1 H2
  obtain ⟨n, hn⟩ : ∃ n, n = bs.length := ⟨_, rfl⟩
  obtain ⟨m, hm⟩ : ∃ m, m = ds.length := ⟨_, rfl⟩
  rw [← hn] at l1 ⊢
  rw [← hm] at l2 ⊢
  have HN := Lib.hid (And.intro hn hm)
  have ln : n ≤ 32000000 := by omega
  have lm : m ≤ 32000000 := by omega
  clear hn hm l1 l2 hx hy
  go_wp2
  go_loopw [7, 8, 9, 10] (fun v cv iv _ wr => ∃ (k : Nat) (cy : Bool), k ≤ n + m + 1 ∧ (k ≤ n + 1 ∨ k ≤ m + 1) ∧ iv = .int .i64 k ∧ cv = .bool cy ∧ RAddRel k bs ds w2 cy v wr) (fun _ _ iv _ _ => n + m + 2 - (intOf iv).toNat)
  case atStart => exact ⟨0, false, by omega, by omega, rfl, rfl, [], OutB.nil _ _, rfl, by simp [bval], Below.refl _ _⟩
  case round =>
    obtain ⟨k, cy, hk, hkk, rfl, rfl, os, r0, r1, r2, r3⟩ := hrel
    have R := Lib.hid (And.intro r0 (And.intro r1 (And.intro r2 r3)))
    have hol : os.length ≤ 64000001 := by omega
    clear r0 r1 r2 r3
    by_cases hgo : k ≤ n ∨ k ≤ m
    · obtain ⟨x, hxb⟩ : ∃ x, x = bs[k]?.getD false := ⟨_, rfl⟩
      obtain ⟨y, hyb⟩ : ∃ y, y = ds[k]?.getD false := ⟨_, rfl⟩
      have Q1' := Lib.hid (Q1.out.below R.out.2.2.2)
      have Q2' := Lib.hid (Q2.out.below R.out.2.2.2)
      have HX := Lib.hid hxb
      have HY := Lib.hid hyb
      clear hxb hyb
      have hbs := R.out.2.2.2.size
      cases x <;> cases y <;> cases cy <;> by_cases hnm : n < m <;> (
        go_wp2_with (first
          | (at_builtin; refine wpList_append_own_at _ rfl _ _ 59 rfl w2.heap.size 4 i0 (.bool false) 1 1 Try.underlying59 HI.out.1 HI.out.2.1 HI.out.2.2.1 HI.out.2.2.2 rfl (by decide) _ _ _ rfl (R.out.1.alloc _) ⟨_, 0, none⟩ 1 1 [.bool _] rfl rfl (cell_one_new _ _ _) (by simp [Value.oneCell']) (by simp only [maxLen]; omega) (by omega) (by simp; omega) ?_; intro v2 w3 own2 grow2 _ at2)
          | (go_at_call_of 62 (Value.slice A1 n c1); refine (rat_nat Q1'.out HN.out.1.symm (by omega) k HX.out).mono ?_; rintro e w' ⟨rfl, rfl⟩)
          | (go_at_call_of 62 (Value.slice A2 m c2); refine (rat_nat Q2'.out HN.out.2.symm (by omega) k HY.out).mono ?_; rintro e w' ⟨rfl, rfl⟩))
        go_roundw
        case rel => exact ⟨k + 1, _, by omega, by omega, by go_num, rfl, RAddRel.next R.out.1 R.out.2.1 R.out.2.2.1 R.out.2.2.2 HX.out HY.out (by decide) (by decide) own2 grow2⟩
        case measure => simp [intOf] <;> omega)
    · obtain ⟨A3, c3, hv⟩ := R.out.1.shape
      subst hv
      have F := Lib.hid (RAddRel.last R.out.2.1 R.out.2.2.1 (by rw [← HN.out.1]; omega) (by rw [← HN.out.2]; omega))
      by_cases hnm : n < m <;> (
        go_wp2_with (go_at_call 63; refine (of_any A3 c3 os _ (R.out.1.reads rfl) (by omega)).mono ?_; rintro e w3 ⟨A4, c4, rs, rfl, q4, k4, v4, b4⟩)
        go_ret
        exact ⟨A4, c4, rs, rfl, q4, k4, by rw [v4, F.out, V.out.1, V.out.2], (BB.out.trans (R.out.2.2.2.mono BB.out.size)).trans (b4.mono (Nat.le_trans BB.out.size R.out.2.2.2.size))⟩)

end Go.Proofs.Ythkeehfoefjnfaa
