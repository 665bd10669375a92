/-
  The reference's Sub.
-/
import Derived.Test.YthkeehfoefjnfaaRAdd
import Derived.Test.YthkeehfoefjnfaaSub
namespace Go.Proofs.Ythkeehfoefjnfaa
set_option linter.unusedVariables false
set_option linter.unusedSimpArgs false
open Go.RowKit Num

def RSubRel (k : Nat) (bs ds : List Bool) (w : World) (bo : Bool) (v : Value) (wr : World) : Prop :=
  ∃ os, OutB wr w.heap.size v os ∧ os.length = k ∧ bval os + bval (ds.take k) = bval (bs.take k) + 2 ^ k * bo.toNat ∧ Below w.heap.size w wr
theorem RSubRel.next {k : Nat} {bs ds : List Bool} {w wr w1 : World} {bo : Bool} {v v' : Value} {os : List Bool} {o : Obj} (h0 : OutB wr w.heap.size v os) (h1 : os.length = k) (h2 : bval os + bval (ds.take k) = bval (bs.take k) + 2 ^ k * bo.toNat) (h4 : Below w.heap.size w wr)
    {x y b bo' : Bool} (hx : x = bs[k]?.getD false) (hy : y = ds[k]?.getD false) (hb : b.toNat + y.toNat + bo.toNat = x.toNat + 2 * bo'.toNat)
    (hown : w1.ownsRow w.heap.size 4 1 v' (os.length + 1) (os.map Value.bool ++ [.bool b])) (hg : (wr.alloc o).grownBy w1 v.ownBlock) : RSubRel (k + 1) bs ds w bo' v' w1 := by
  obtain ⟨k1, k2⟩ := h0.snoc h4 (Nat.le_refl _) hown hg
  refine ⟨_, k1, by rw [List.length_append, h1]; rfl, ?_, k2⟩
  rw [bval_append, h1, bval_take_getD k, bval_take_getD k, ← hx, ← hy, Nat.pow_succ]
  generalize 2 ^ k = p at *
  have e0 : bval [b] = b.toNat := by simp [bval]
  have e2 : p * b.toNat + p * y.toNat + p * bo.toNat = p * x.toNat + p * (2 * bo'.toNat) := by rw [← Nat.mul_add, ← Nat.mul_add, hb, Nat.mul_add]
  rw [Nat.mul_assoc, e0]
  omega
theorem RSubRel.last {k : Nat} {bs ds os : List Bool} {bo : Bool} (h1 : os.length = k) (h2 : bval os + bval (ds.take k) = bval (bs.take k) + 2 ^ k * bo.toNat) (hb : bs.length = k) (hle : bval ds ≤ bval bs) : bval os = bval bs - bval ds := by
  rw [List.take_of_length_le (show bs.length ≤ k by omega)] at h2
  have l1 := bval_lt bs
  have l2 := bval_lt os
  rw [h1] at l2
  rw [hb] at l1
  have hy : bval (ds.take k) = bval ds := by
    rcases Nat.lt_or_ge ds.length k with hlt | hge
    · rw [List.take_of_length_le (by omega)]
    · have := bval_split ds k hge
      generalize 2 ^ k = p at *
      rcases Nat.eq_zero_or_pos (bval (ds.drop k)) with h0 | h0
      · rw [h0] at this; omega
      · have : p * 1 ≤ p * bval (ds.drop k) := Nat.mul_le_mul_left _ h0
        omega
  rw [hy] at h2
  cases bo
  · simp at h2; omega
  · simp at h2; omega

theorem rcmp_val {A B : Option Addr} {c d : Nat} {xs ys : List Nat} {w : World} (h : Us w A c xs) (k : Us w B d ys) (hx : xs.length ≤ 1000000) (hy : ys.length ≤ 1000000) {z : Int} (hz : z = cmpN (val xs) (val ys)) :
    Calls Try.prog 17 #[.slice A xs.length c, .slice B ys.length d] w fun e w' => e = .returned (.int .i64 z) ∧ Below w.heap.size w w' := by
  subst hz
  exact rcmp_any A B c d xs ys w h k hx hy

set_option maxRecDepth 100000 in
set_option maxHeartbeats 4000000 in
theorem rsub_any (A B : Option Addr) (c d : Nat) (xs ys : List Nat) (w : World) (h : Us w A c xs) (k : Us w B d ys) (hx : xs.length ≤ 1000000) (hy : ys.length ≤ 1000000) :
    Calls Try.prog 12 #[.slice A xs.length c, .slice B ys.length d] w (RetS (val xs) (val ys) w) := by
  obtain ⟨i0, hi, hz0, hz1, hz2⟩ := info_parts Try.infoB
  obtain ⟨z, hz⟩ : ∃ z, z = cmpN (val xs) (val ys) := ⟨_, rfl⟩
  have HI := Lib.hid (And.intro hi (And.intro hz0 (And.intro hz1 hz2)))
  have H1 := Lib.hid h
  have H2 := Lib.hid k
  have HZ := Lib.hid hz
  have hd := h.1
  have hd2 := k.1
  clear h k hi hz0 hz1 hz2 hz
  by_cases hlt : val xs < val ys
  · have zneg : z < 0 := by rw [HZ.out]; exact cmpN_neg.2 hlt
    have HLT := Lib.hid hlt
    clear hlt
    go_enter Try.func12, Try.ntmps12
    go_wp2_with (go_at_call 17; refine (rcmp_val H1.out H2.out hx hy HZ.out).mono ?_; rintro e w1 ⟨rfl, b1⟩)
    go_ret2
    exact ⟨fun _ => ⟨rfl, b1⟩, fun h => absurd HLT.out (by omega)⟩
  · have zneg : ¬ z < 0 := by rw [HZ.out]; exact fun h => hlt (cmpN_neg.1 h)
    have HLE := Lib.hid (show val ys ≤ val xs by omega)
    clear hlt
    go_enter Try.func12, Try.ntmps12
    go_upto_region 4 with (first
      | (go_at_call 17; refine (rcmp_val H1.out H2.out hx hy HZ.out).mono ?_; rintro e w1 ⟨rfl, b0⟩)
      | (go_at_call_of 61 (Value.slice A xs.length c); refine (bits_any A c xs _ (H1.out.below b0) hx).mono ?_; rintro e w1' ⟨A1, c1, bs, rfl, q1, k1, v1, b1⟩)
      | (go_at_call_of 61 (Value.slice B ys.length d); refine (bits_any B d ys _ ((H2.out.below b0).below b1) hy).mono ?_; rintro e w2 ⟨A2, c2, ds, rfl, q2, k2, v2, b2⟩))
    have l1 := bits_len hd k1 v1
    have l2 := bits_len hd2 k2 v2
    have Q1 := Lib.hid (q1.below b2)
    have Q2 := Lib.hid q2
    have V := Lib.hid (And.intro v1 v2)
    have BB := Lib.hid (b0.trans ((b1.trans (b2.mono b1.size)).mono b0.size))
    clear q1 q2 k1 k2 v1 v2 b0 b1 b2 hd hd2 H1 H2
    obtain ⟨n, hn⟩ : ∃ n, n = bs.length := ⟨_, rfl⟩
    obtain ⟨m, hm⟩ : ∃ m, m = ds.length := ⟨_, rfl⟩
    rw [← hn] at l1 ⊢
    rw [← hm] at l2 ⊢
    have HN := Lib.hid (And.intro hn hm)
    have ln : n ≤ 32000000 := by omega
    have lm : m ≤ 32000000 := by omega
    clear hn hm l1 l2 hx hy
    go_wp2
    go_loopw [8, 9, 10, 11] (fun v cv iv _ wr => ∃ (k : Nat) (bo : Bool), k ≤ n ∧ iv = .int .i64 k ∧ cv = .int .i64 (bo.toNat : Int) ∧ RSubRel k bs ds w2 bo v wr) (fun _ _ iv _ _ => n - (intOf iv).toNat)
    case atStart => exact ⟨0, false, by omega, rfl, rfl, [], OutB.nil _ _, rfl, by simp [bval], Below.refl _ _⟩
    case round =>
      obtain ⟨k, bo, hk, rfl, rfl, os, r0, r1, r2, r3⟩ := hrel
      have R := Lib.hid (And.intro r0 (And.intro r1 (And.intro r2 r3)))
      have hol : os.length ≤ 64000001 := by omega
      clear r0 r1 r2 r3
      by_cases hgo : k < n
      · obtain ⟨x, hxb⟩ : ∃ x, x = bs[k]?.getD false := ⟨_, rfl⟩
        obtain ⟨y, hyb⟩ : ∃ y, y = ds[k]?.getD false := ⟨_, rfl⟩
        have Q1' := Lib.hid (Q1.out.below R.out.2.2.2)
        have Q2' := Lib.hid (Q2.out.below R.out.2.2.2)
        have HX := Lib.hid hxb
        have HY := Lib.hid hyb
        clear hxb hyb
        have hbs := R.out.2.2.2.size
        cases x <;> cases y <;> cases bo <;> (
          (try simp only [Bool.toNat_false, Bool.toNat_true, Int.cast_ofNat_Int])
          go_wp2_with (first
            | (at_builtin; refine wpList_append_own_at _ rfl _ _ 59 rfl w2.heap.size 4 i0 (.bool false) 1 1 Try.underlying59 HI.out.1 HI.out.2.1 HI.out.2.2.1 HI.out.2.2.2 rfl (by decide) _ _ _ rfl (R.out.1.alloc _) ⟨_, 0, none⟩ 1 1 [.bool _] rfl rfl (cell_one_new _ _ _) (by simp [Value.oneCell']) (by simp only [maxLen]; omega) (by omega) (by simp; omega) ?_; intro v2 w3 own2 grow2 _ at2)
            | (go_at_call_of 62 (Value.slice A1 n c1); refine (rat_nat Q1'.out HN.out.1.symm (by omega) k HX.out).mono ?_; rintro e w' ⟨rfl, rfl⟩)
            | (go_at_call_of 62 (Value.slice A2 m c2); refine (rat_nat Q2'.out HN.out.2.symm (by omega) k HY.out).mono ?_; rintro e w' ⟨rfl, rfl⟩))
          go_roundw
          case rel => first
            | exact ⟨k + 1, false, by omega, by go_num, rfl, RSubRel.next R.out.1 R.out.2.1 R.out.2.2.1 R.out.2.2.2 HX.out HY.out (by decide) own2 grow2⟩
            | exact ⟨k + 1, true, by omega, by go_num, rfl, RSubRel.next R.out.1 R.out.2.1 R.out.2.2.1 R.out.2.2.2 HX.out HY.out (by decide) own2 grow2⟩
          case measure => simp [intOf] <;> omega)
      · obtain rfl : k = n := by omega
        obtain ⟨A3, c3, hv⟩ := R.out.1.shape
        subst hv
        have F := Lib.hid (RSubRel.last R.out.2.1 R.out.2.2.1 HN.out.1.symm (by rw [V.out.1, V.out.2]; exact HLE.out))
        go_wp2_with (go_at_call 63; refine (of_any A3 c3 os _ (R.out.1.reads rfl) (by omega)).mono ?_; rintro e w3 ⟨A4, c4, rs, rfl, q4, k4, v4, b4⟩)
        go_ret2
        exact ⟨fun h => absurd HLE.out (by omega), fun _ => ⟨A4, c4, rs, rfl, q4, k4, by rw [v4, F.out, V.out.1, V.out.2], (BB.out.trans (R.out.2.2.2.mono BB.out.size)).trans (b4.mono (Nat.le_trans BB.out.size R.out.2.2.2.size))⟩⟩

end Go.Proofs.Ythkeehfoefjnfaa
