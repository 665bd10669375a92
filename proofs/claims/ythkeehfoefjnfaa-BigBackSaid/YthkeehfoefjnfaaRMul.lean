/-
  The reference's Mul.
-/
import Derived.Test.YthkeehfoefjnfaaRSmall
import Derived.Test.YthkeehfoefjnfaaMul
namespace Go.Proofs.Ythkeehfoefjnfaa
set_option linter.unusedVariables false
set_option linter.unusedSimpArgs false
open Go.RowKit Num

def RMulRel (m c0 : Nat) (xs : List Nat) (w : World) (k cy : Nat) (v : Value) (wr : World) : Prop :=
  ∃ rs, cy < 4294967296 ∧ OutU wr w.heap.size v rs ∧ rs.length = k ∧ val rs + 4294967296 ^ k * cy = val (xs.take k) * m + c0 ∧ Below w.heap.size w wr
theorem RMulRel.next {m c0 k cy : Nat} {xs rs : List Nat} {w wr w1 : World} {v v' : Value} {o : Obj} (h1 : cy < 4294967296) (h2 : OutU wr w.heap.size v rs) (h3 : rs.length = k) (h4 : val rs + 4294967296 ^ k * cy = val (xs.take k) * m + c0) (h5 : Below w.heap.size w wr)
    (hk : k < xs.length) (hm : m < 4294967296) (hd : Dig xs) {x z : Nat} (hx : x = xs[k]?.getD 0) (hz : z = x * m + cy)
    (hown : w1.ownsRow w.heap.size 35 1 v' (rs.length + 1) (rs.map u32v ++ [.int .u32 ((z % 4294967296 : Nat) : Int)])) (hg : (wr.alloc o).grownBy w1 v.ownBlock) : RMulRel m c0 xs w (k + 1) (z / 4294967296) v' w1 := by
  obtain ⟨k1, k2⟩ := h2.snoc (Nat.mod_lt _ (by decide)) h5 (Nat.le_refl _) hown hg
  have hxl : x < 4294967296 := by rw [hx]; exact hd.getD k
  have hp : x * m ≤ 4294967295 * 4294967295 := Nat.mul_le_mul (by omega) (by omega)
  refine ⟨_, by omega, k1, by rw [List.length_append, h3]; rfl, ?_, k2⟩
  rw [val_append, h3, Nat.pow_succ, hz, show val [(x * m + cy) % 4294967296] = (x * m + cy) % 4294967296 from by simp [val]]
  exact mul_step h4 (by rw [val_take_succ hk, ← hx])

theorem rnorm_of {A : Option Addr} {c n : Nat} {xs : List Nat} {w : World} (h : Us w A c xs) (hn : xs.length = n) (hl : n ≤ 1000000) :
    Calls Try.prog 29 #[.slice A n c] w (RetU (val xs) w) := by
  subst hn
  exact rnorm_any A c xs w h hl

set_option maxRecDepth 100000 in
set_option maxHeartbeats 1600000 in
theorem rmul_any (A : Option Addr) (c : Nat) (xs : List Nat) (m c0 : Nat) (w : World) (h : Us w A c xs) (hl : xs.length < 1000000) (hm : m < 4294967296) (hc0 : c0 < 4294967296) :
    Calls Try.prog 33 #[.slice A xs.length c, .int .u32 m, .int .u32 c0] w (RetU (val xs * m + c0) w) := by
  obtain ⟨i0, hi, hz0, hz1, hz2⟩ := info_parts Try.infoU
  obtain ⟨n, hn⟩ : ∃ n, n = xs.length := ⟨_, rfl⟩
  rw [← hn]
  have hln : n < 1000000 := by omega
  have HN := Lib.hid hn
  have HH := Lib.hid h
  have HI := Lib.hid (And.intro hi (And.intro hz0 (And.intro hz1 hz2)))
  clear h hi hz0 hz1 hz2 hn hl
  go_enter Try.func33, Try.ntmps33
  go_wp2
  go_loopw [7, 8, 9, 10] (fun v cv iv _ wr => ∃ (k cy : Nat), k ≤ n ∧ iv = .int .i64 k ∧ cv = .int .u64 cy ∧ RMulRel m c0 xs w k cy v wr) (fun _ _ iv _ _ => n - (intOf iv).toNat)
  case atStart => exact ⟨0, c0, Nat.zero_le _, rfl, rfl, [], hc0, OutU.nil _ _, rfl, by simp [val], Below.refl _ _⟩
  case round =>
    obtain ⟨k, cy, hk, rfl, rfl, rs, hcy, r1, r2, r3, r4⟩ := hrel
    have R := Lib.hid (And.intro r1 (And.intro r2 (And.intro r3 r4)))
    have hrl : rs.length < 1000000 := by omega
    have hbs := r4.size
    clear r1 r2 r3 r4
    by_cases hlt : k < n
    · obtain ⟨b, off, rfl, hb, hc⟩ := HH.out.at_ (by rw [← HN.out]; omega)
      have ex := (R.out.2.2.2.cell (p := ⟨b, off + k, none⟩) hb).trans (hc k (by rw [← HN.out]; exact hlt))
      obtain ⟨x, hx⟩ : ∃ x, x = xs[k]?.getD 0 := ⟨_, rfl⟩
      rw [← hx] at ex
      have hxl : x < 4294967296 := by rw [hx]; exact HH.out.1.getD k
      have hp : x * m ≤ 4294967295 * 4294967295 := Nat.mul_le_mul (by omega) (by omega)
      obtain ⟨q, hq⟩ : ∃ q : Nat, q = x * m := ⟨_, rfl⟩
      have hq2 : (x : Int) * (m : Int) = (q : Int) := by rw [hq]; simp
      have hql : q ≤ 18446744065119617025 := by rw [hq]; exact hp
      have HQ := Lib.hid (And.intro hx hq)
      clear hc hx hp hq
      go_wp2_with (at_builtin; refine wpList_append_own_at _ rfl _ _ 22 rfl w.heap.size 35 i0 (.int .u32 0) 1 4 Try.underlying22 HI.out.1 HI.out.2.1 HI.out.2.2.1 HI.out.2.2.2 rfl (by decide) _ _ _ rfl (R.out.1.2.alloc _) ⟨_, 0, none⟩ 1 1 [.int .u32 _] rfl rfl (cell_one_new _ _ _) (by simp [Value.oneCell']) (by simp only [maxLen]; omega) (by omega) (by simp; omega) ?_; intro v2 w2 own2 grow2 _ at2)
      go_roundw
      case rel => exact ⟨k + 1, (q + cy) / 4294967296, by omega, by go_num, by go_num, RMulRel.next hcy R.out.1 R.out.2.1 R.out.2.2.1 R.out.2.2.2 (by rw [← HN.out]; exact hlt) hm HH.out.1 HQ.out.1 (by rw [HQ.out.2]) own2 grow2⟩
      case measure => simp [intOf] <;> omega
    · obtain rfl : k = n := by omega
      have F := Lib.hid (show val (rs ++ [cy]) = val xs * m + c0 by
        have := R.out.2.2.1
        rw [take_all HN.out.symm] at this
        rw [val_append, R.out.2.1, ← this]
        simp [val])
      go_wp2_with (first
        | (at_builtin; refine wpList_append_own_at _ rfl _ _ 22 rfl w.heap.size 35 i0 (.int .u32 0) 1 4 Try.underlying22 HI.out.1 HI.out.2.1 HI.out.2.2.1 HI.out.2.2.2 rfl (by decide) _ _ _ rfl (R.out.1.2.alloc _) ⟨_, 0, none⟩ 1 1 [.int .u32 (cy : Int)] rfl rfl (cell_one_new _ _ _) (by simp [Value.oneCell']) (by simp only [maxLen]; omega) (by omega) (by simp; omega) ?_; intro v2 w2 own2 grow2 _ at2; obtain ⟨k1, k2⟩ := R.out.1.snoc hcy R.out.2.2.2 (Nat.le_refl _) own2 grow2; obtain ⟨A3, c3, hv3⟩ := own_shape own2; subst hv3; have K := Lib.hid (And.intro k1 k2); clear k1 k2 own2 grow2 at2)
        | (go_at_call 29; refine (rnorm_of (n := rs.length + 1) (K.out.1.reads (by simp)) (by simp) (by omega)).mono ?_; rintro e w4 ⟨A4, c4, r4, rfl, q4, k4, v4, b4⟩))
      go_ret
      exact ⟨A4, c4, r4, rfl, q4, k4, v4.trans F.out, K.out.2.trans (b4.mono K.out.2.size)⟩

end Go.Proofs.Ythkeehfoefjnfaa
