/-
  The reference's Add.
  The reference's Sub.
  The reference's Mul.
  The reference's Div.
  The reference's Shl.
-/
import Derived.Test.YteekijmhghokkaaDoorLimbE
import Derived.Test.YteekijmhghokkaaDoorLimbC
import Derived.Test.YteekijmhghokkaaDoorLimbD
import Derived.RegionTactic
import Derived.BigRegion
import Derived.Test.YteekijmhghokkaaDoorLimbB
import Derived.Deep.RegionHeld

namespace Go.Proofs.YteekijmhghokkaaDoor
set_option linter.unusedVariables false
set_option linter.unusedSimpArgs false
open Go.RowKit Num
theorem bval_take_getD {xs : List Bool} (k : Nat) : bval (xs.take (k + 1)) = bval (xs.take k) + 2 ^ k * (xs[k]?.getD false).toNat := by
  rcases Nat.lt_or_ge k xs.length with h | h
  · exact bval_take_succ h
  · rw [List.take_of_length_le (by omega), List.take_of_length_le (by omega), List.getElem?_eq_none h]
    simp
/-- After k rounds. -/
def RAddRel (k : Nat) (bs ds : List Bool) (w : World) (cy : Bool) (v : Value) (wr : World) : Prop :=
  ∃ os, OutB wr w.heap.size v os ∧ os.length = k ∧ bval os + 2 ^ k * cy.toNat = bval (bs.take k) + bval (ds.take k) ∧ Below w.heap.size w wr
theorem RAddRel.next {k : Nat} {bs ds : List Bool} {w wr w1 : World} {cy : Bool} {v v' : Value} {os : List Bool} {o : Obj} (h0 : OutB wr w.heap.size v os) (h1 : os.length = k) (h2 : bval os + 2 ^ k * cy.toNat = bval (bs.take k) + bval (ds.take k)) (h4 : Below w.heap.size w wr)
    {x y b cy' : Bool} (hx : x = bs[k]?.getD false) (hy : y = ds[k]?.getD false) (hb : b = ((x.toNat + y.toNat + cy.toNat) % 2 == 1)) (hc : cy' = decide (1 < x.toNat + y.toNat + cy.toNat))
    (hown : w1.ownsRow w.heap.size 4 1 v' (os.length + 1) (os.map Value.bool ++ [.bool b])) (hg : (wr.alloc o).grownBy w1 v.ownBlock) : RAddRel (k + 1) bs ds w cy' v' w1 := by
  obtain ⟨k1, k2⟩ := h0.snoc h4 (Nat.le_refl _) hown hg
  refine ⟨_, k1, by rw [List.length_append, h1]; rfl, ?_, k2⟩
  rw [bval_append, h1, bval_take_getD k, bval_take_getD k, ← hx, ← hy, Nat.pow_succ]
  generalize 2 ^ k = p at *
  have e : (bval [b]) + 2 * cy'.toNat = x.toNat + y.toNat + cy.toNat := by
    rw [hb, hc]
    cases x <;> cases y <;> cases cy <;> rfl
  have e2 : p * bval [b] + p * (2 * cy'.toNat) = p * x.toNat + p * y.toNat + p * cy.toNat := by rw [← Nat.mul_add, e, Nat.mul_add, Nat.mul_add]
  rw [Nat.mul_assoc]
  omega
theorem RAddRel.last {k : Nat} {bs ds os : List Bool} {cy : Bool} (h1 : os.length = k) (h2 : bval os + 2 ^ k * cy.toNat = bval (bs.take k) + bval (ds.take k)) (hb : bs.length < k) (hd : ds.length < k) : bval os = bval bs + bval ds := by
  rw [List.take_of_length_le (by omega), List.take_of_length_le (by omega)] at h2
  have l1 := bval_lt bs
  have l2 := bval_lt ds
  have p1 : 2 ^ bs.length ≤ 2 ^ (k - 1) := Nat.pow_le_pow_right (by decide) (by omega)
  have p2 : 2 ^ ds.length ≤ 2 ^ (k - 1) := Nat.pow_le_pow_right (by decide) (by omega)
  have p3 : 2 ^ k = 2 ^ (k - 1) * 2 := by rw [← Nat.pow_succ]; congr 1; omega
  cases cy
  · simpa using h2
  · simp at h2; omega
set_option maxRecDepth 100000 in
set_option maxHeartbeats 4000000 in
theorem radd_any (A B : Option Addr) (c d : Nat) (xs ys : List Nat) (w : World) (h : Us w A c xs) (k : Us w B d ys) (hx : xs.length ≤ 1000000) (hy : ys.length ≤ 1000000) :
    Calls Tryd.prog 31 #[.slice A xs.length c, .slice B ys.length d] w (RetU (val xs + val ys) w) := by
  obtain ⟨i0, hi, hz0, hz1, hz2⟩ := info_parts Tryd.infoB
  have HI := Lib.hid (And.intro hi (And.intro hz0 (And.intro hz1 hz2)))
  have H1 := Lib.hid h
  have H2 := Lib.hid k
  have hd := h.1
  have hd2 := k.1
  clear h k hi hz0 hz1 hz2
  go_enter Tryd.func31, Tryd.ntmps31
  go_upto_region 2 with (first
    | (go_at_call_of 39 (Value.slice A xs.length c); refine (bits_any A c xs _ H1.out hx).mono ?_; rintro e w1 ⟨A1, c1, bs, rfl, q1, k1, v1, b1⟩)
    | (go_at_call_of 39 (Value.slice B ys.length d); refine (bits_any B d ys _ (H2.out.below b1) hy).mono ?_; rintro e w2 ⟨A2, c2, ds, rfl, q2, k2, v2, b2⟩))
  have l1 := bits_len hd k1 v1
  have l2 := bits_len hd2 k2 v2
  have Q1 := Lib.hid (q1.below b2)
  have Q2 := Lib.hid q2
  have V := Lib.hid (And.intro v1 v2)
  have BB := Lib.hid (b1.trans (b2.mono b1.size))
  clear q1 q2 k1 k2 v1 v2 b1 b2 hd hd2 H1 H2
  obtain ⟨n, hn⟩ : ∃ n, n = bs.length := ⟨_, rfl⟩
  obtain ⟨m, hm⟩ : ∃ m, m = ds.length := ⟨_, rfl⟩
  rw [← hn] at l1 ⊢
  rw [← hm] at l2 ⊢
  have HN := Lib.hid (And.intro hn hm)
  have ln : n ≤ 32000000 := by omega
  have lm : m ≤ 32000000 := by omega
  clear hn hm l1 l2 hx hy
  go_wp2
  go_loopw [7, 8, 9, 10] (fun v cv iv _ wr => ∃ (k : Nat) (cy : Bool), k ≤ n + m + 1 ∧ (k ≤ n + 1 ∨ k ≤ m + 1) ∧ iv = .int .i64 k ∧ cv = .bool cy ∧ RAddRel k bs ds w2 cy v wr) (fun _ _ iv _ _ => n + m + 2 - (intOf iv).toNat)
  case atStart => exact ⟨0, false, by omega, by omega, rfl, rfl, [], OutB.nil _ _, rfl, by simp [bval], Below.refl _ _⟩
  case round =>
    obtain ⟨k, cy, hk, hkk, rfl, rfl, os, r0, r1, r2, r3⟩ := hrel
    have R := Lib.hid (And.intro r0 (And.intro r1 (And.intro r2 r3)))
    have hol : os.length ≤ 64000001 := by omega
    clear r0 r1 r2 r3
    by_cases hgo : k ≤ n ∨ k ≤ m
    · obtain ⟨x, hxb⟩ : ∃ x, x = bs[k]?.getD false := ⟨_, rfl⟩
      obtain ⟨y, hyb⟩ : ∃ y, y = ds[k]?.getD false := ⟨_, rfl⟩
      have Q1' := Lib.hid (Q1.out.below R.out.2.2.2)
      have Q2' := Lib.hid (Q2.out.below R.out.2.2.2)
      have HX := Lib.hid hxb
      have HY := Lib.hid hyb
      clear hxb hyb
      have hbs := R.out.2.2.2.size
      cases x <;> cases y <;> cases cy <;> by_cases hnm : n < m <;> (
        go_wp2_with (first
          | (at_builtin; refine wpList_append_own_at _ rfl _ _ 62 rfl w2.heap.size 4 i0 (.bool false) 1 1 Tryd.underlying62 HI.out.1 HI.out.2.1 HI.out.2.2.1 HI.out.2.2.2 rfl (by decide) _ _ _ rfl (R.out.1.alloc _) ⟨_, 0, none⟩ 1 1 [.bool _] rfl rfl (cell_one_new _ _ _) (by simp [Value.oneCell']) (by simp only [maxLen]; omega) (by omega) (by simp; omega) ?_; intro v2 w3 own2 grow2 _ at2)
          | (go_at_call_of 40 (Value.slice A1 n c1); refine (rat_nat Q1'.out HN.out.1.symm (by omega) k HX.out).mono ?_; rintro e w' ⟨rfl, rfl⟩)
          | (go_at_call_of 40 (Value.slice A2 m c2); refine (rat_nat Q2'.out HN.out.2.symm (by omega) k HY.out).mono ?_; rintro e w' ⟨rfl, rfl⟩))
        go_roundw
        case rel => exact ⟨k + 1, _, by omega, by omega, by go_num, rfl, RAddRel.next R.out.1 R.out.2.1 R.out.2.2.1 R.out.2.2.2 HX.out HY.out (by decide) (by decide) own2 grow2⟩
        case measure => simp [intOf] <;> omega)
    · obtain ⟨A3, c3, hv⟩ := R.out.1.shape
      subst hv
      have F := Lib.hid (RAddRel.last R.out.2.1 R.out.2.2.1 (by rw [← HN.out.1]; omega) (by rw [← HN.out.2]; omega))
      by_cases hnm : n < m <;> (
        go_wp2_with (go_at_call 41; refine (of_any A3 c3 os _ (R.out.1.reads rfl) (by omega)).mono ?_; rintro e w3 ⟨A4, c4, rs, rfl, q4, k4, v4, b4⟩)
        go_ret
        exact ⟨A4, c4, rs, rfl, q4, k4, by rw [v4, F.out, V.out.1, V.out.2], (BB.out.trans (R.out.2.2.2.mono BB.out.size)).trans (b4.mono (Nat.le_trans BB.out.size R.out.2.2.2.size))⟩)
end Go.Proofs.YteekijmhghokkaaDoor

namespace Go.Proofs.YteekijmhghokkaaDoor
set_option linter.unusedVariables false
set_option linter.unusedSimpArgs false
open Go.RowKit Num
def RSubRel (k : Nat) (bs ds : List Bool) (w : World) (bo : Bool) (v : Value) (wr : World) : Prop :=
  ∃ os, OutB wr w.heap.size v os ∧ os.length = k ∧ bval os + bval (ds.take k) = bval (bs.take k) + 2 ^ k * bo.toNat ∧ Below w.heap.size w wr
theorem RSubRel.next {k : Nat} {bs ds : List Bool} {w wr w1 : World} {bo : Bool} {v v' : Value} {os : List Bool} {o : Obj} (h0 : OutB wr w.heap.size v os) (h1 : os.length = k) (h2 : bval os + bval (ds.take k) = bval (bs.take k) + 2 ^ k * bo.toNat) (h4 : Below w.heap.size w wr)
    {x y b bo' : Bool} (hx : x = bs[k]?.getD false) (hy : y = ds[k]?.getD false) (hb : b.toNat + y.toNat + bo.toNat = x.toNat + 2 * bo'.toNat)
    (hown : w1.ownsRow w.heap.size 4 1 v' (os.length + 1) (os.map Value.bool ++ [.bool b])) (hg : (wr.alloc o).grownBy w1 v.ownBlock) : RSubRel (k + 1) bs ds w bo' v' w1 := by
  obtain ⟨k1, k2⟩ := h0.snoc h4 (Nat.le_refl _) hown hg
  refine ⟨_, k1, by rw [List.length_append, h1]; rfl, ?_, k2⟩
  rw [bval_append, h1, bval_take_getD k, bval_take_getD k, ← hx, ← hy, Nat.pow_succ]
  generalize 2 ^ k = p at *
  have e0 : bval [b] = b.toNat := by simp [bval]
  have e2 : p * b.toNat + p * y.toNat + p * bo.toNat = p * x.toNat + p * (2 * bo'.toNat) := by rw [← Nat.mul_add, ← Nat.mul_add, hb, Nat.mul_add]
  rw [Nat.mul_assoc, e0]
  omega
theorem RSubRel.last {k : Nat} {bs ds os : List Bool} {bo : Bool} (h1 : os.length = k) (h2 : bval os + bval (ds.take k) = bval (bs.take k) + 2 ^ k * bo.toNat) (hb : bs.length = k) (hle : bval ds ≤ bval bs) : bval os = bval bs - bval ds := by
  rw [List.take_of_length_le (show bs.length ≤ k by omega)] at h2
  have l1 := bval_lt bs
  have l2 := bval_lt os
  rw [h1] at l2
  rw [hb] at l1
  have hy : bval (ds.take k) = bval ds := by
    rcases Nat.lt_or_ge ds.length k with hlt | hge
    · rw [List.take_of_length_le (by omega)]
    · have := bval_split ds k hge
      generalize 2 ^ k = p at *
      rcases Nat.eq_zero_or_pos (bval (ds.drop k)) with h0 | h0
      · rw [h0] at this; omega
      · have : p * 1 ≤ p * bval (ds.drop k) := Nat.mul_le_mul_left _ h0
        omega
  rw [hy] at h2
  cases bo
  · simp at h2; omega
  · simp at h2; omega
theorem rcmp_val {A B : Option Addr} {c d : Nat} {xs ys : List Nat} {w : World} (h : Us w A c xs) (k : Us w B d ys) (hx : xs.length ≤ 1000000) (hy : ys.length ≤ 1000000) {z : Int} (hz : z = cmpN (val xs) (val ys)) :
    Calls Tryd.prog 42 #[.slice A xs.length c, .slice B ys.length d] w fun e w' => e = .returned (.int .i64 z) ∧ Below w.heap.size w w' := by
  subst hz
  exact rcmp_any A B c d xs ys w h k hx hy
set_option maxRecDepth 100000 in
set_option maxHeartbeats 4000000 in
theorem rsub_any (A B : Option Addr) (c d : Nat) (xs ys : List Nat) (w : World) (h : Us w A c xs) (k : Us w B d ys) (hx : xs.length ≤ 1000000) (hy : ys.length ≤ 1000000) :
    Calls Tryd.prog 32 #[.slice A xs.length c, .slice B ys.length d] w (RetS (val xs) (val ys) w) := by
  obtain ⟨i0, hi, hz0, hz1, hz2⟩ := info_parts Tryd.infoB
  obtain ⟨z, hz⟩ : ∃ z, z = cmpN (val xs) (val ys) := ⟨_, rfl⟩
  have HI := Lib.hid (And.intro hi (And.intro hz0 (And.intro hz1 hz2)))
  have H1 := Lib.hid h
  have H2 := Lib.hid k
  have HZ := Lib.hid hz
  have hd := h.1
  have hd2 := k.1
  clear h k hi hz0 hz1 hz2 hz
  by_cases hlt : val xs < val ys
  · have zneg : z < 0 := by rw [HZ.out]; exact cmpN_neg.2 hlt
    have HLT := Lib.hid hlt
    clear hlt
    go_enter Tryd.func32, Tryd.ntmps32
    go_wp2_with (go_at_call 42; refine (rcmp_val H1.out H2.out hx hy HZ.out).mono ?_; rintro e w1 ⟨rfl, b1⟩)
    go_ret2
    exact ⟨fun _ => ⟨rfl, b1⟩, fun h => absurd HLT.out (by omega)⟩
  · have zneg : ¬ z < 0 := by rw [HZ.out]; exact fun h => hlt (cmpN_neg.1 h)
    have HLE := Lib.hid (show val ys ≤ val xs by omega)
    clear hlt
    go_enter Tryd.func32, Tryd.ntmps32
    go_upto_region 4 with (first
      | (go_at_call 42; refine (rcmp_val H1.out H2.out hx hy HZ.out).mono ?_; rintro e w1 ⟨rfl, b0⟩)
      | (go_at_call_of 39 (Value.slice A xs.length c); refine (bits_any A c xs _ (H1.out.below b0) hx).mono ?_; rintro e w1' ⟨A1, c1, bs, rfl, q1, k1, v1, b1⟩)
      | (go_at_call_of 39 (Value.slice B ys.length d); refine (bits_any B d ys _ ((H2.out.below b0).below b1) hy).mono ?_; rintro e w2 ⟨A2, c2, ds, rfl, q2, k2, v2, b2⟩))
    have l1 := bits_len hd k1 v1
    have l2 := bits_len hd2 k2 v2
    have Q1 := Lib.hid (q1.below b2)
    have Q2 := Lib.hid q2
    have V := Lib.hid (And.intro v1 v2)
    have BB := Lib.hid (b0.trans ((b1.trans (b2.mono b1.size)).mono b0.size))
    clear q1 q2 k1 k2 v1 v2 b0 b1 b2 hd hd2 H1 H2
    obtain ⟨n, hn⟩ : ∃ n, n = bs.length := ⟨_, rfl⟩
    obtain ⟨m, hm⟩ : ∃ m, m = ds.length := ⟨_, rfl⟩
    rw [← hn] at l1 ⊢
    rw [← hm] at l2 ⊢
    have HN := Lib.hid (And.intro hn hm)
    have ln : n ≤ 32000000 := by omega
    have lm : m ≤ 32000000 := by omega
    clear hn hm l1 l2 hx hy
    go_wp2
    go_loopw [8, 9, 10, 11] (fun v cv iv _ wr => ∃ (k : Nat) (bo : Bool), k ≤ n ∧ iv = .int .i64 k ∧ cv = .int .i64 (bo.toNat : Int) ∧ RSubRel k bs ds w2 bo v wr) (fun _ _ iv _ _ => n - (intOf iv).toNat)
    case atStart => exact ⟨0, false, by omega, rfl, rfl, [], OutB.nil _ _, rfl, by simp [bval], Below.refl _ _⟩
    case round =>
      obtain ⟨k, bo, hk, rfl, rfl, os, r0, r1, r2, r3⟩ := hrel
      have R := Lib.hid (And.intro r0 (And.intro r1 (And.intro r2 r3)))
      have hol : os.length ≤ 64000001 := by omega
      clear r0 r1 r2 r3
      by_cases hgo : k < n
      · obtain ⟨x, hxb⟩ : ∃ x, x = bs[k]?.getD false := ⟨_, rfl⟩
        obtain ⟨y, hyb⟩ : ∃ y, y = ds[k]?.getD false := ⟨_, rfl⟩
        have Q1' := Lib.hid (Q1.out.below R.out.2.2.2)
        have Q2' := Lib.hid (Q2.out.below R.out.2.2.2)
        have HX := Lib.hid hxb
        have HY := Lib.hid hyb
        clear hxb hyb
        have hbs := R.out.2.2.2.size
        cases x <;> cases y <;> cases bo <;> (
          (try simp only [Bool.toNat_false, Bool.toNat_true, Int.cast_ofNat_Int])
          go_wp2_with (first
            | (at_builtin; refine wpList_append_own_at _ rfl _ _ 62 rfl w2.heap.size 4 i0 (.bool false) 1 1 Tryd.underlying62 HI.out.1 HI.out.2.1 HI.out.2.2.1 HI.out.2.2.2 rfl (by decide) _ _ _ rfl (R.out.1.alloc _) ⟨_, 0, none⟩ 1 1 [.bool _] rfl rfl (cell_one_new _ _ _) (by simp [Value.oneCell']) (by simp only [maxLen]; omega) (by omega) (by simp; omega) ?_; intro v2 w3 own2 grow2 _ at2)
            | (go_at_call_of 40 (Value.slice A1 n c1); refine (rat_nat Q1'.out HN.out.1.symm (by omega) k HX.out).mono ?_; rintro e w' ⟨rfl, rfl⟩)
            | (go_at_call_of 40 (Value.slice A2 m c2); refine (rat_nat Q2'.out HN.out.2.symm (by omega) k HY.out).mono ?_; rintro e w' ⟨rfl, rfl⟩))
          go_roundw
          case rel => first
            | exact ⟨k + 1, false, by omega, by go_num, rfl, RSubRel.next R.out.1 R.out.2.1 R.out.2.2.1 R.out.2.2.2 HX.out HY.out (by decide) own2 grow2⟩
            | exact ⟨k + 1, true, by omega, by go_num, rfl, RSubRel.next R.out.1 R.out.2.1 R.out.2.2.1 R.out.2.2.2 HX.out HY.out (by decide) own2 grow2⟩
          case measure => simp [intOf] <;> omega)
      · obtain rfl : k = n := by omega
        obtain ⟨A3, c3, hv⟩ := R.out.1.shape
        subst hv
        have F := Lib.hid (RSubRel.last R.out.2.1 R.out.2.2.1 HN.out.1.symm (by rw [V.out.1, V.out.2]; exact HLE.out))
        go_wp2_with (go_at_call 41; refine (of_any A3 c3 os _ (R.out.1.reads rfl) (by omega)).mono ?_; rintro e w3 ⟨A4, c4, rs, rfl, q4, k4, v4, b4⟩)
        go_ret2
        exact ⟨fun h => absurd HLE.out (by omega), fun _ => ⟨A4, c4, rs, rfl, q4, k4, by rw [v4, F.out, V.out.1, V.out.2], (BB.out.trans (R.out.2.2.2.mono BB.out.size)).trans (b4.mono (Nat.le_trans BB.out.size R.out.2.2.2.size))⟩⟩
end Go.Proofs.YteekijmhghokkaaDoor

namespace Go.Proofs.YteekijmhghokkaaDoor
set_option linter.unusedVariables false
set_option linter.unusedSimpArgs false
open Go.RowKit Num
def RMulRel (m c0 : Nat) (xs : List Nat) (w : World) (k cy : Nat) (v : Value) (wr : World) : Prop :=
  ∃ rs, cy < 4294967296 ∧ OutU wr w.heap.size v rs ∧ rs.length = k ∧ val rs + 4294967296 ^ k * cy = val (xs.take k) * m + c0 ∧ Below w.heap.size w wr
theorem RMulRel.next {m c0 k cy : Nat} {xs rs : List Nat} {w wr w1 : World} {v v' : Value} {o : Obj} (h1 : cy < 4294967296) (h2 : OutU wr w.heap.size v rs) (h3 : rs.length = k) (h4 : val rs + 4294967296 ^ k * cy = val (xs.take k) * m + c0) (h5 : Below w.heap.size w wr)
    (hk : k < xs.length) (hm : m < 4294967296) (hd : Dig xs) {x z : Nat} (hx : x = xs[k]?.getD 0) (hz : z = x * m + cy)
    (hown : w1.ownsRow w.heap.size 48 1 v' (rs.length + 1) (rs.map u32v ++ [.int .u32 ((z % 4294967296 : Nat) : Int)])) (hg : (wr.alloc o).grownBy w1 v.ownBlock) : RMulRel m c0 xs w (k + 1) (z / 4294967296) v' w1 := by
  obtain ⟨k1, k2⟩ := h2.snoc (Nat.mod_lt _ (by decide)) h5 (Nat.le_refl _) hown hg
  have hxl : x < 4294967296 := by rw [hx]; exact hd.getD k
  have hp : x * m ≤ 4294967295 * 4294967295 := Nat.mul_le_mul (by omega) (by omega)
  refine ⟨_, by omega, k1, by rw [List.length_append, h3]; rfl, ?_, k2⟩
  rw [val_append, h3, Nat.pow_succ, hz, show val [(x * m + cy) % 4294967296] = (x * m + cy) % 4294967296 from by simp [val]]
  exact mul_step h4 (by rw [val_take_succ hk, ← hx])
theorem rnorm_of {A : Option Addr} {c n : Nat} {xs : List Nat} {w : World} (h : Us w A c xs) (hn : xs.length = n) (hl : n ≤ 1000000) :
    Calls Tryd.prog 36 #[.slice A n c] w (RetU (val xs) w) := by
  subst hn
  exact rnorm_any A c xs w h hl
set_option maxRecDepth 100000 in
set_option maxHeartbeats 1600000 in
theorem rmul_any (A : Option Addr) (c : Nat) (xs : List Nat) (m c0 : Nat) (w : World) (h : Us w A c xs) (hl : xs.length < 1000000) (hm : m < 4294967296) (hc0 : c0 < 4294967296) :
    Calls Tryd.prog 25 #[.slice A xs.length c, .int .u32 m, .int .u32 c0] w (RetU (val xs * m + c0) w) := by
  obtain ⟨i0, hi, hz0, hz1, hz2⟩ := info_parts Tryd.infoU
  obtain ⟨n, hn⟩ : ∃ n, n = xs.length := ⟨_, rfl⟩
  rw [← hn]
  have hln : n < 1000000 := by omega
  have HN := Lib.hid hn
  have HH := Lib.hid h
  have HI := Lib.hid (And.intro hi (And.intro hz0 (And.intro hz1 hz2)))
  clear h hi hz0 hz1 hz2 hn hl
  go_enter Tryd.func25, Tryd.ntmps25
  go_wp2
  go_loopw [7, 8, 9, 10] (fun v cv iv _ wr => ∃ (k cy : Nat), k ≤ n ∧ iv = .int .i64 k ∧ cv = .int .u64 cy ∧ RMulRel m c0 xs w k cy v wr) (fun _ _ iv _ _ => n - (intOf iv).toNat)
  case atStart => exact ⟨0, c0, Nat.zero_le _, rfl, rfl, [], hc0, OutU.nil _ _, rfl, by simp [val], Below.refl _ _⟩
  case round =>
    obtain ⟨k, cy, hk, rfl, rfl, rs, hcy, r1, r2, r3, r4⟩ := hrel
    have R := Lib.hid (And.intro r1 (And.intro r2 (And.intro r3 r4)))
    have hrl : rs.length < 1000000 := by omega
    have hbs := r4.size
    clear r1 r2 r3 r4
    by_cases hlt : k < n
    · obtain ⟨b, off, rfl, hb, hc⟩ := HH.out.at_ (by rw [← HN.out]; omega)
      have ex := (R.out.2.2.2.cell (p := ⟨b, off + k, none⟩) hb).trans (hc k (by rw [← HN.out]; exact hlt))
      obtain ⟨x, hx⟩ : ∃ x, x = xs[k]?.getD 0 := ⟨_, rfl⟩
      rw [← hx] at ex
      have hxl : x < 4294967296 := by rw [hx]; exact HH.out.1.getD k
      have hp : x * m ≤ 4294967295 * 4294967295 := Nat.mul_le_mul (by omega) (by omega)
      obtain ⟨q, hq⟩ : ∃ q : Nat, q = x * m := ⟨_, rfl⟩
      have hq2 : (x : Int) * (m : Int) = (q : Int) := by rw [hq]; simp
      have hql : q ≤ 18446744065119617025 := by rw [hq]; exact hp
      have HQ := Lib.hid (And.intro hx hq)
      clear hc hx hp hq
      go_wp2_with (at_builtin; refine wpList_append_own_at _ rfl _ _ 22 rfl w.heap.size 48 i0 (.int .u32 0) 1 4 Tryd.underlying22 HI.out.1 HI.out.2.1 HI.out.2.2.1 HI.out.2.2.2 rfl (by decide) _ _ _ rfl (R.out.1.2.alloc _) ⟨_, 0, none⟩ 1 1 [.int .u32 _] rfl rfl (cell_one_new _ _ _) (by simp [Value.oneCell']) (by simp only [maxLen]; omega) (by omega) (by simp; omega) ?_; intro v2 w2 own2 grow2 _ at2)
      go_roundw
      case rel => exact ⟨k + 1, (q + cy) / 4294967296, by omega, by go_num, by go_num, RMulRel.next hcy R.out.1 R.out.2.1 R.out.2.2.1 R.out.2.2.2 (by rw [← HN.out]; exact hlt) hm HH.out.1 HQ.out.1 (by rw [HQ.out.2]) own2 grow2⟩
      case measure => simp [intOf] <;> omega
    · obtain rfl : k = n := by omega
      have F := Lib.hid (show val (rs ++ [cy]) = val xs * m + c0 by
        have := R.out.2.2.1
        rw [take_all HN.out.symm] at this
        rw [val_append, R.out.2.1, ← this]
        simp [val])
      go_wp2_with (first
        | (at_builtin; refine wpList_append_own_at _ rfl _ _ 22 rfl w.heap.size 48 i0 (.int .u32 0) 1 4 Tryd.underlying22 HI.out.1 HI.out.2.1 HI.out.2.2.1 HI.out.2.2.2 rfl (by decide) _ _ _ rfl (R.out.1.2.alloc _) ⟨_, 0, none⟩ 1 1 [.int .u32 (cy : Int)] rfl rfl (cell_one_new _ _ _) (by simp [Value.oneCell']) (by simp only [maxLen]; omega) (by omega) (by simp; omega) ?_; intro v2 w2 own2 grow2 _ at2; obtain ⟨k1, k2⟩ := R.out.1.snoc hcy R.out.2.2.2 (Nat.le_refl _) own2 grow2; obtain ⟨A3, c3, hv3⟩ := own_shape own2; subst hv3; have K := Lib.hid (And.intro k1 k2); clear k1 k2 own2 grow2 at2)
        | (go_at_call 36; refine (rnorm_of (n := rs.length + 1) (K.out.1.reads (by simp)) (by simp) (by omega)).mono ?_; rintro e w4 ⟨A4, c4, r4, rfl, q4, k4, v4, b4⟩))
      go_ret
      exact ⟨A4, c4, r4, rfl, q4, k4, v4.trans F.out, K.out.2.trans (b4.mono K.out.2.size)⟩
end Go.Proofs.YteekijmhghokkaaDoor

namespace Go.Proofs.YteekijmhghokkaaDoor
set_option linter.unusedVariables false
set_option linter.unusedSimpArgs false
open Go.RowKit Num
/-- The places from i on are done. -/
def RDivRel (n m : Nat) (xs : List Nat) (w : World) (g i rr : Nat) (rs : List Nat) (wr : World) : Prop :=
  rr < m ∧ OwnU wr w.heap.size g n rs ∧ val (rs.drop i) * m + rr = val (xs.drop i) ∧ Below w.heap.size w wr
theorem RDivRel.next {n m g i rr : Nat} {xs rs : List Nat} {w wr : World} (R : RDivRel n m xs w g (i + 1) rr rs wr) (hn : xs.length = n) (hi : i < n) (hm : m < 4294967296) (hd : Dig xs) {x : Nat} (hx : x = xs[i]?.getD 0) :
    RDivRel n m xs w g i (divR rr x m) (rs.set i (divQ rr x m)) ((wr.setCell ⟨g, i, none⟩ (.int .u32 ((divQ rr x m : Nat) : Int)))) := by
  obtain ⟨h1, h2, h3, h4⟩ := R
  have hl := h2.2.1
  have hxl : x < 4294967296 := by rw [hx]; exact hd.getD i
  refine ⟨divR_lt h1, h2.set i (divQ_lt h1 hxl), ?_, h4.setCell (p := ⟨g, i, none⟩) h2.base _⟩
  rw [val_drop_set _ (by omega), val_drop (by omega : i < xs.length), ← hx, ← h3]
  have := div_eq rr x m
  generalize divQ rr x m = q at *
  generalize divR rr x m = r at *
  rw [Nat.add_mul, Nat.mul_assoc]
  omega
theorem rdiv_q {h l m : Nat} (hh : h < m) (hl : l < 4294967296) : ((h : Int) * 4294967296 + (l : Int)) / (m : Int) % 4294967296 = ((divQ h l m : Nat) : Int) := by
  have hq := divQ_lt hh hl
  have e : ((h : Int) * 4294967296 + (l : Int)) / (m : Int) = ((divQ h l m : Nat) : Int) := by
    unfold divQ
    rw [Int.natCast_ediv]
    congr 1
    omega
  rw [e]
  omega
theorem rdiv_r {h l m : Nat} : ((h : Int) * 4294967296 + (l : Int)) % (m : Int) = ((divR h l m : Nat) : Int) := by
  unfold divR
  rw [Int.natCast_emod]
  congr 1
  omega
theorem RDivRel.drew {n m g i rr : Nat} {xs rs : List Nat} {w wr : World} (R : RDivRel n m xs w g i rr rs wr) : RDivRel n m xs w g i rr rs wr.drew := ⟨R.1, R.2.1.drew, R.2.2.1, below_drewN R.2.2.2 1⟩
theorem RDivRel.last {n m g rr : Nat} {xs rs : List Nat} {w wr : World} (R : RDivRel n m xs w g 0 rr rs wr) (hm : 0 < m) : val rs = val xs / m ∧ rr = val xs % m := by
  obtain ⟨h1, _, h3, _⟩ := R
  rw [List.drop_zero, List.drop_zero] at h3
  have := Nat.div_mod_unique hm (a := val xs) (c := rr) (d := val rs)
  have h := this.2 ⟨by rw [Nat.mul_comm]; omega, h1⟩
  exact ⟨h.1.symm, h.2.symm⟩
set_option maxRecDepth 100000 in
set_option maxHeartbeats 1600000 in
theorem rdiv_yes (A : Option Addr) (c : Nat) (xs : List Nat) (m : Nat) (w : World) (h : Us w A c xs) (hl : xs.length ≤ 1000000) (hm : 0 < m) (hmm : m < 4294967296) :
    Calls Tryd.prog 28 #[.slice A xs.length c, .int .u32 (m : Int)] w (RetD (val xs / m) (val xs % m) w) := by
  obtain ⟨i0, hi, hz0, hz1, hz2⟩ := info_parts Tryd.infoU
  obtain ⟨n, hn⟩ : ∃ n, n = xs.length := ⟨_, rfl⟩
  rw [← hn] at hl ⊢
  have HN := Lib.hid hn
  have HH := Lib.hid h
  have HI := Lib.hid (And.intro hi (And.intro hz0 (And.intro hz1 hz2)))
  have m0 : ((m : Int) == 0) = false := by rw [beq_eq_false_iff_ne]; omega
  have m1 : (1 : Int) ≤ (m : Int) := by omega
  clear h hi hz0 hz1 hz2 hn
  go_enter Tryd.func28, Tryd.ntmps28
  go_wp2_with (first
    | (at_make; refine wpList_make_full _ rfl _ _ 22 rfl w.heap.size 48 i0 _ 1 Tryd.underlying22 HI.out.1 HI.out.2.1 HI.out.2.2.1 .i64 .i64 _ _ n rfl rfl (by omega) (by omega) (by rw [HI.out.2.2.2]; omega) (by unfold maxLen; omega) (Nat.le_refl _) ?_; intro w0 hown0 hgrow0))
  have own0 := OwnU.made hown0
  have hb0 : Below w.heap.size w w0 := (Below.refl _ _).grown hgrow0 (Nat.le_refl _) (fun k hk => by cases hk)
  have R0 := Lib.hid (show RDivRel n m xs w w.heap.size n 0 (List.replicate n 0) w0 from ⟨hm, own0, by rw [List.drop_eq_nil_of_le (by simp), List.drop_eq_nil_of_le (by rw [← HN.out]; exact Nat.le_refl _)]; simp [val], hb0⟩)
  clear hown0 hgrow0 own0 hb0
  generalize w.heap.size = g at R0 ⊢
  go_loopw [7, 8, 9] (fun cv iv _ wr => ∃ (i rr : Nat) (t : Int) (rs : List Nat), i ≤ n ∧ t = (i : Int) - 1 ∧ iv = .int .i64 t ∧ cv = .int .u64 rr ∧ RDivRel n m xs w g i rr rs wr) (fun _ iv _ _ => (intOf iv + 1).toNat)
  case atStart => exact ⟨n, 0, _, _, Nat.le_refl _, rfl, rfl, rfl, R0.out⟩
  case round =>
    obtain ⟨i, rr, t, rs, hi, ht, rfl, rfl, R⟩ := hrel
    have hrr := R.1
    by_cases h0 : 0 < i
    · obtain ⟨q, rfl⟩ : ∃ q, i = q + 1 := ⟨i - 1, by omega⟩
      obtain rfl : t = (q : Int) := by omega
      obtain ⟨b, off, rfl, hb, hc⟩ := HH.out.at_ (by rw [← HN.out]; omega)
      have ex := (R.2.2.2.cell (p := ⟨b, off + q, none⟩) hb).trans (hc q (by rw [← HN.out]; omega))
      obtain ⟨x, hx⟩ : ∃ x, x = xs[q]?.getD 0 := ⟨_, rfl⟩
      rw [← hx] at ex
      have hxl : x < 4294967296 := by rw [hx]; exact HH.out.1.getD q
      have ec := R.2.1.cell (k := q) (by omega)
      have fc := R.2.1.free q
      have RR := Lib.hid (R.next HN.out.symm (by omega) hmm HH.out.1 hx)
      have hqn : (q : Int) < (n : Int) := by omega
      obtain ⟨z, hz⟩ : ∃ z : Nat, z = rr * 4294967296 + x := ⟨_, rfl⟩
      clear hc hx R ht
      go_wp2
      go_region
      all_goals go_wp2
      go_roundw
      case rel =>
        refine ⟨q, divR rr x m, (q : Int) - 1, rs.set q (divQ rr x m), by omega, rfl, rfl, by rw [rdiv_r], ?_⟩
        rw [rdiv_q hrr hxl]
        exact RR.out.drew
      case measure => simp [intOf] <;> omega
    · obtain rfl : i = 0 := by omega
      obtain rfl : t = -1 := by omega
      have F := Lib.hid (R.last hm)
      have RD := Lib.hid R.2.1.reads
      have HL := Lib.hid R.2.1.2.1
      have HB := Lib.hid R.2.2.2
      clear R ht hi h0
      go_wp2_with (go_at_call 36; refine (rnorm_of RD.out HL.out hl).mono ?_; rintro e w4 ⟨A4, c4, r4, rfl, q4, k4, v4, b4⟩)
      go_ret2
      refine ⟨A4, c4, r4, ?_, q4, k4, v4.trans F.out.1, HB.out.trans (b4.mono HB.out.size)⟩
      rw [← F.out.2]
      rfl
end Go.Proofs.YteekijmhghokkaaDoor

namespace Go.Proofs.YteekijmhghokkaaDoor
set_option linter.unusedVariables false
set_option linter.unusedSimpArgs false
open Go.RowKit Num
/-- append(s, x...), s the call's own, x whatever reads: what it does to memory. -/
theorem append_run {P : Program} (w : World) (t ty : TypeId)
    (base : Nat) (e : TypeId) (i : TypeInfo) (z : Value) (bytes : Nat) (ht : P.underlying t = some (.slice e)) (hi : P.info? e = some i) (hz : i.zero = some z)
    (hsize : i.size = 1) (hby : i.bytes = bytes) (hzs : z.cells.size = 1)
    (v : Value) (n : Nat) (xs : List Value) (hown : w.ownsRow base e 1 v n xs)
    (A : Option Addr) (m c : Nat) (news : List Value) (hr : Rd w A c news) (hm : m = news.length) (h1 : ∀ u ∈ news, u.oneCell' = true)
    (h63 : n + m ≤ maxLen) (hbytes : (n + m) * bytes ≤ 140737488355328) (hbase : base ≤ w.heap.size) :
    ∃ v' w', (Builtin.append_ #[t, t] ty #[v, .slice A m c]).run P w = .ok v' w' ∧ w'.ownsRow base e 1 v' (n + m) (xs ++ news) ∧ w.grownBy w' v.ownBlock ∧ (v'.ownBlock = v.ownBlock ∨ v'.ownBlock = some w.heap.size) := by
  subst hm
  cases A with
  | none =>
    have hn : news = [] := by
      cases news with
      | nil => rfl
      | cons u r => obtain ⟨b, off, he, _⟩ := hr.2.2 (by simp); cases he
    subst hn
    refine ⟨v, w, ?_, by simpa using hown, World.grownBy.refl w _, .inl rfl⟩
    rcases hown.2 with ⟨rfl, rfl⟩ | ⟨g, cap, cur, rfl, _, _, hnc, _⟩
    · simp [Builtin.append_, run_underlying ht, sizeOf, typeInfo, hi, Builtin.lenOf, Builtin.firstCells]
    · simp [Builtin.append_, run_underlying ht, sizeOf, typeInfo, hi, Builtin.lenOf, Builtin.firstCells, hnc, storeCells]
  | some ad =>
    have hcells : ∀ j u, news[j]? = some u → w.cell? (ad.add j) = some u := by
      intro j u hu
      obtain ⟨b, off, he, _, hc⟩ := hr.2.2 (by rcases List.getElem?_eq_some_iff.1 hu with ⟨hlt, _⟩; omega)
      cases he
      rw [show (⟨b, off, none⟩ : Addr).add j = ⟨b, off + j, none⟩ from by unfold Addr.add; split <;> simp_all]
      exact hc j u hu
    obtain ⟨v', w', hrun, h2, h3, _, h5⟩ := run_append_own_at (P := P) w base t ty e i z 1 bytes ht hi hz hsize hby hzs (by decide) v n xs hown ad news.length c news (by omega) hcells h1 h63 hbytes hbase
    exact ⟨v', w', hrun, h2, h3, h5⟩
/-- The same as an operation of a region. -/
theorem oper_append_rd {P : Program} {w : World} {o : Oper} {a : Act} {K : Act → World → Prop} {Q : Exit → Act → World → Prop} (s x : Operand) (t : TypeId)
    (ho : o.op = .call { callee := .builtin .append, args := #[s, x], argTypes := #[t, t] })
    (base : Nat) (e : TypeId) (i : TypeInfo) (z : Value) (bytes : Nat) (ht : P.underlying t = some (.slice e)) (hi : P.info? e = some i) (hz : i.zero = some z)
    (hsize : i.size = 1) (hby : i.bytes = bytes) (hzs : z.cells.size = 1)
    (v : Value) (n : Nat) (xs : List Value) (hs : a.eval s = v) (hown : w.ownsRow base e 1 v n xs)
    (A : Option Addr) (m c : Nat) (news : List Value) (hx : a.eval x = .slice A m c) (hr : Rd w A c news) (hm : m = news.length) (h1 : ∀ u ∈ news, u.oneCell' = true)
    (h63 : n + m ≤ maxLen) (hbytes : (n + m) * bytes ≤ 140737488355328) (hbase : base ≤ w.heap.size)
    (h : ∀ v' w', w'.ownsRow base e 1 v' (n + m) (xs ++ news) → w.grownBy w' v.ownBlock → (v'.ownBlock = v.ownBlock ∨ v'.ownBlock = some w.heap.size) → K (a.put o.dst v') w') : Oper.wp P o a w K Q := by
  obtain ⟨v', w', hrun, h2, h3, h4⟩ := append_run (P := P) w t o.type base e i z bytes ht hi hz hsize hby hzs v n xs hown A m c news hr hm h1 h63 hbytes hbase
  unfold Oper.wp execOp
  simp only [ho, resolve, invoke, builtin, Sem.run_bind, Sem.run_pure, Result.andThen_ok, List.map_toArray, List.map_cons, List.map_nil, hs, hx, hrun]
  exact h v' w' h2 h3 h4
/-- make(T, n) as an operation of a region. -/
theorem oper_make_full {P : Program} {w : World} {o : Oper} {a : Act} {K : Act → World → Prop} {Q : Exit → Act → World → Prop}
    (l c : Operand) (t : TypeId) (hop : o.op = Op.makeSlice t l c)
    (base : Nat) (e : TypeId) (i : TypeInfo) (z : Value) (size : Nat) (h1 : P.underlying t = some (.slice e)) (h2 : P.info? e = some i) (h3 : i.zero = some z) (h4 : i.size = size)
    (kl kc : IntKind) (L C : Int) (n : Nat) (hl : a.eval l = .int kl L) (hc : a.eval c = .int kc C) (hL : L = (n : Int)) (hC : C = (n : Int)) (b2 : i.bytes * n ≤ 281474976710656) (b3 : n ≤ maxLen) (b4 : base ≤ w.heap.size)
    (hK : ∀ w', w'.ownsRow base e size (.slice (some ⟨w.heap.size, 0, none⟩) n n) n (madeCells z.cells (n * size)).toList → w.grownBy w' none → K (a.put o.dst (.slice (some ⟨w.heap.size, 0, none⟩) n n)) w') :
    Oper.wp P o a w K Q := by
  obtain ⟨w', hrun, r1, r2⟩ := run_make_full (P := P) w base t e i z size h1 h2 h3 h4 kl kc n b2 b3 b4
  subst hL
  subst hC
  unfold Oper.wp
  simp [execOp, hop, hl, hc, hrun, Result.andThen]
  exact hK w' r1 r2
theorem made_false (n : Nat) : (madeCells (Value.cells (.bool false)) (n * 1)).toList = (List.replicate n false).map Value.bool := by
  rw [Nat.mul_one]
  refine List.ext_getElem (by simp [madeCells]) fun i h1 h2 => ?_
  simp [madeCells, Value.cells, Nat.mod_one]
set_option maxRecDepth 100000 in
set_option maxHeartbeats 1600000 in
theorem rshl_yes (A : Option Addr) (c : Nat) (xs : List Nat) (k : Nat) (w : World) (h : Us w A c xs) (hl : xs.length ≤ 1000000) (hk : k ≤ 10000) :
    Calls Tryd.prog 43 #[.slice A xs.length c, .int .i64 (k : Int)] w (RetU (val xs * 2 ^ k) w) := by
  obtain ⟨i0, hi, hz0, hz1, hz2⟩ := info_parts Tryd.infoB
  have HH := Lib.hid h
  have hd := h.1
  have HI := Lib.hid (And.intro hi (And.intro hz0 (And.intro hz1 hz2)))
  clear h hi hz0 hz1 hz2
  go_enter Tryd.func43, Tryd.ntmps43
  go_wp2_with fail
  refine wp_normalOnly ?_
  refine wp_region_held (S := fun _ => True) (by kernel_rfl) ?_
  refine wpAnyH_take (i := 0) (v := .int .i64 (k : Int)) rfl (by kernel_rfl) (by kernel_rfl) (by kernel_rfl) (fun _ _ _ h => h) (Or.inl ⟨by rfl, ?_⟩) trivial ?_
  · rintro w' -
    go_simp
  simp only [Act.put, List.setIfInBounds_toArray, List.set_cons_zero, List.set_cons_succ]
  refine wpAnyH_take (i := 2) (v := .slice A xs.length c) rfl (by kernel_rfl) (by kernel_rfl) (by kernel_rfl) (fun _ _ _ h => h) (Or.inl ⟨by rfl, ?_⟩) trivial ?_
  · rintro w' -
    go_simp
  simp only [Act.put, List.setIfInBounds_toArray, List.set_cons_zero, List.set_cons_succ]
  obtain ⟨w0, hw0⟩ : ∃ w0 : World, w0 = { w with drawn := w.drawn + 1 } := ⟨_, rfl⟩
  have hb0 : Below w.heap.size w w0 := by rw [hw0]; exact below_drewN (Below.refl _ w) 1
  have hs0 : w.heap.size ≤ w0.heap.size := hb0.size
  rw [← hw0]
  clear hw0
  have hu0 := HH.out.below hb0
  refine wpAnyH_ready (rs := [1, 3]) (by kernel_rfl) (by simp) (AllReadyH.cons rfl (fun K hK => ?_) (AllReadyH.cons rfl (fun K hK => ?_) AllReadyH.nil))
  rw [if_pos (by rfl)]
  refine oper_make_full (.tmp 11) (.tmp 11) 62 rfl w.heap.size 4 i0 _ 1 Tryd.underlying62 HI.out.1 HI.out.2.1 HI.out.2.2.1 .i64 .i64 _ _ k rfl rfl rfl rfl (by rw [HI.out.2.2.2]; omega) (by simp only [maxLen]; omega) (by omega) ?_
  intro w1 own1 grow1
  simp only [Act.put, List.setIfInBounds_toArray, List.set_cons_zero, List.set_cons_succ]
  refine hK.out _ _ trivial (fun _ => ?_)
  clear hK K
  refine wpAnyH_ready (rs := [3]) (by kernel_rfl) (by simp) (AllReadyH.cons rfl (fun K hK => ?_) AllReadyH.nil)
  go_simp
  have hb1 : Below w.heap.size w w1 := hb0.grown grow1 (by omega) (fun k hk => by cases hk)
  have hu1 := HH.out.below hb1
  refine (bits_any A c xs _ hu1 hl).mono ?_
  rintro e w2 ⟨A1, c1, bs, rfl, q2, k1, v1, b2⟩
  dsimp only
  refine hK.out _ _ trivial (fun _ => ?_)
  clear hK K
  have own2 := ownsRow_below own1 b2
  rw [made_false] at own2
  have hb2 : Below w.heap.size w w2 := hb1.trans (b2.mono hb1.size)
  have hgb : w.heap.size ≤ w0.heap.size := by omega
  clear grow1 hs0
  generalize hgg : w0.heap.size = g at own2 hgb ⊢
  clear hgg
  rotate_left
  go_simp
  refine (bits_any A c xs _ hu0 hl).mono ?_
  rintro e w1 ⟨A1, c1, bs, rfl, q1, k1, v1, b1⟩
  dsimp only
  refine hK.out _ _ trivial (fun _ => ?_)
  clear hK K
  have hb1 : Below w.heap.size w w1 := hb0.trans (b1.mono hb0.size)
  have hs1 := hb1.size
  refine wpAnyH_ready (rs := [1]) (by kernel_rfl) (by simp) (AllReadyH.cons rfl (fun K hK => ?_) AllReadyH.nil)
  rw [if_pos (by rfl)]
  refine oper_make_full (.tmp 11) (.tmp 11) 62 rfl w.heap.size 4 i0 _ 1 Tryd.underlying62 HI.out.1 HI.out.2.1 HI.out.2.2.1 .i64 .i64 _ _ k rfl rfl rfl rfl (by rw [HI.out.2.2.2]; omega) (by simp only [maxLen]; omega) (by omega) ?_
  intro w2 own2 grow2
  simp only [Act.put, List.setIfInBounds_toArray, List.set_cons_zero, List.set_cons_succ]
  refine hK.out _ _ trivial (fun _ => ?_)
  clear hK K
  rw [made_false] at own2
  have hb2 : Below w.heap.size w w2 := hb1.grown grow2 (by omega) (fun k hk => by cases hk)
  have q2 : Bl w2 A1 c1 bs := Bl.below q1 ((Below.refl _ w1).grown grow2 (Nat.le_refl _) (fun k hk => by cases hk))
  have hgb : w.heap.size ≤ w1.heap.size := by omega
  clear grow2 hs0
  generalize hgg : w1.heap.size = g at own2 hgb ⊢
  clear hgg
  all_goals
    have hbl := bits_len hd k1 v1
    refine wpAnyH_ready (rs := [4]) (by kernel_rfl) (by simp) (AllReadyH.cons rfl (fun K hK => ?_) AllReadyH.nil)
    rw [if_pos (by rfl)]
    refine oper_append_rd (.tmp 12) (.tmp 14) 62 rfl w.heap.size 4 i0 _ 1 Tryd.underlying62 HI.out.1 HI.out.2.1 HI.out.2.2.1 HI.out.2.2.2 rfl (.slice (some ⟨g, 0, none⟩) k k) k _ rfl own2 A1 bs.length c1 (bs.map Value.bool) rfl q2 (by simp) (bool_one _) (by simp only [maxLen]; omega) (by omega) hb2.size ?_
    intro v3 w3 own3 grow3 at3
    obtain ⟨A3, c3, rfl⟩ := own_shape own3
    simp only [Act.put, List.setIfInBounds_toArray, List.set_cons_zero, List.set_cons_succ]
    refine hK.out _ _ trivial (fun _ => ?_)
    clear hK K
    have hb3 : Below w.heap.size w w3 := hb2.grown grow3 hb2.size (fun k hk => by cases hk; omega)
    have q3 : Bl w3 A3 c3 (List.replicate k false ++ bs) := by
      unfold Bl
      rw [List.map_append]
      exact Rd.own own3
    have hv3 : bval (List.replicate k false ++ bs) = val xs * 2 ^ k := by
      rw [bval_append, bval_false, List.length_replicate, v1, Nat.zero_add, Nat.mul_comm]
    refine wpAnyH_ready (rs := [5]) (by kernel_rfl) (by simp) (AllReadyH.cons rfl (fun K hK => ?_) AllReadyH.nil)
    go_simp
    refine (of_of q3 (by simp) (by omega)).mono ?_
    rintro e w4 ⟨A4, c4, rs, rfl, q4, k4, v4, b4⟩
    dsimp only
    refine hK.out _ _ trivial (fun _ => ?_)
    clear hK K
    refine wpAnyH_ready (rs := [6]) (by kernel_rfl) (by simp) (AllReadyH.cons rfl (fun K hK => ?_) AllReadyH.nil)
    go_simp
    refine hK.out _ _ trivial (fun _ => ?_)
    clear hK K
    refine wpAnyH_done (by kernel_rfl) ?_ _
    unfold NormalOnly
    go_wp2_with fail
    go_ret
    exact ⟨A4, c4, rs, rfl, q4, k4, v4.trans hv3, hb3.trans (b4.mono hb3.size)⟩
theorem rshl_no (A : Option Addr) (c n : Nat) (k : Int) (w : World) (hk : k < 0 ∨ 10000 < k) :
    Calls Tryd.prog 43 #[.slice A n c, .int .i64 k] w (RetU 0 w) := by
  go_enter Tryd.func43, Tryd.ntmps43
  rcases hk with hk | hk
  · go_wp2
    go_ret
    exact ⟨none, 0, [], rfl, Us.nil _, canon_nil, rfl, Below.refl _ _⟩
  · go_wp2
    go_ret
    exact ⟨none, 0, [], rfl, Us.nil _, canon_nil, rfl, Below.refl _ _⟩
end Go.Proofs.YteekijmhghokkaaDoor
