/-
  limb.Mul: times a number, and one more.
-/
import Derived.Test.YthkeehfoefjnfaaTrim
import Derived.Test.YthkeehfoefjnfaaOwn
namespace Go.Proofs.Ythkeehfoefjnfaa
set_option linter.unusedVariables false
set_option linter.unusedSimpArgs false
open Go.RowKit Num

theorem mul_step {p w1 w0 cy r x m c0 : Nat} (h : r + p * cy = w0 * m + c0) (hw : w1 = w0 + p * x) : (r + p * ((x * m + cy) % 4294967296)) + (p * 4294967296) * ((x * m + cy) / 4294967296) = w1 * m + c0 := by
  have e := Nat.mod_add_div (x * m + cy) 4294967296
  have e2 : p * ((x * m + cy) % 4294967296) + p * (4294967296 * ((x * m + cy) / 4294967296)) = p * (x * m + cy) := by rw [← Nat.mul_add, e]
  subst hw
  rw [Nat.mul_assoc, Nat.add_mul, Nat.mul_assoc p x m]
  rw [Nat.mul_add] at e2
  omega

def MulRel (n m c0 : Nat) (xs : List Nat) (w : World) (g k cy : Nat) (rs : List Nat) (wr : World) : Prop :=
  cy < 4294967296 ∧ OwnU wr w.heap.size g (n + 1) rs ∧ val (rs.take k) + 4294967296 ^ k * cy = val (xs.take k) * m + c0 ∧ Below w.heap.size w wr
theorem MulRel.next {n m c0 k cy g : Nat} {xs rs : List Nat} {w wr : World} (h : MulRel n m c0 xs w g k cy rs wr) (hn : xs.length = n) (hk : k < n) (hm : m < 4294967296) (hd : Dig xs) {x z : Nat} (hx : x = xs[k]?.getD 0) (hz : z = x * m + cy) :
    MulRel n m c0 xs w g (k + 1) (z / 4294967296) (rs.set k (z % 4294967296)) (wr.setCell ⟨g, k, none⟩ (.int .u32 ((z % 4294967296 : Nat) : Int))) := by
  obtain ⟨h1, h2, h3, h4⟩ := h
  have hl := h2.2.1
  have hxl : x < 4294967296 := by rw [hx]; exact hd.getD k
  have hp : x * m ≤ 4294967295 * 4294967295 := Nat.mul_le_mul (by omega) (by omega)
  refine ⟨by omega, h2.set k (Nat.mod_lt _ (by decide)), ?_, h4.setCell (p := ⟨g, k, none⟩) h2.base _⟩
  rw [val_take_set _ (by omega), Nat.pow_succ, hz]
  exact mul_step h3 (by rw [val_take_succ (by omega), ← hx])
theorem MulRel.last {n m c0 cy g : Nat} {xs rs : List Nat} {w wr : World} (h : MulRel n m c0 xs w g n cy rs wr) (hn : xs.length = n) :
    OwnU (wr.setCell ⟨g, n, none⟩ (.int .u32 (cy : Int))) w.heap.size g (n + 1) (rs.set n cy) ∧ val (rs.set n cy) = val xs * m + c0 ∧ Below w.heap.size w (wr.setCell ⟨g, n, none⟩ (.int .u32 (cy : Int))) := by
  obtain ⟨h1, h2, h3, h4⟩ := h
  have h5 := h2.set n h1
  refine ⟨h5, ?_, h4.setCell (p := ⟨g, n, none⟩) h2.base _⟩
  have e := val_take_set (rs := rs) (k := n) cy (by have := h2.2.1; omega)
  rw [take_all (n := n + 1) (by simpa using h2.2.1)] at e
  rw [e, h3, take_all hn]

set_option maxRecDepth 100000 in
set_option maxHeartbeats 1600000 in
theorem mul_any (A : Option Addr) (c : Nat) (xs : List Nat) (m c0 : Nat) (w : World) (h : Us w A c xs) (hl : xs.length < 1000000) (hm : m < 4294967296) (hc0 : c0 < 4294967296) :
    Calls Try.prog 32 #[.slice A xs.length c, .int .u32 m, .int .u32 c0] w (RetU (val xs * m + c0) w) := by
  obtain ⟨i0, hi, hz0, hz1, hz2⟩ := info_parts Try.infoU
  obtain ⟨n, hn⟩ : ∃ n, n = xs.length := ⟨_, rfl⟩
  rw [← hn]
  have hln : n < 1000000 := by omega
  have HN := Lib.hid hn
  have HH := Lib.hid h
  have HI := Lib.hid (And.intro hi (And.intro hz0 (And.intro hz1 hz2)))
  clear h hi hz0 hz1 hz2 hn hl
  go_enter Try.func32, Try.ntmps32
  go_wp2_with (first
    | (at_make; refine wpList_make_full _ rfl _ _ 22 rfl w.heap.size 35 i0 _ 1 Try.underlying22 HI.out.1 HI.out.2.1 HI.out.2.2.1 .i64 .i64 _ _ (n + 1) rfl rfl (by omega) (by omega) (by rw [HI.out.2.2.2]; omega) (by unfold maxLen; omega) (Nat.le_refl _) ?_; intro w0 hown0 hgrow0))
  have own0 := OwnU.made hown0
  have hb0 : Below w.heap.size w w0 := (Below.refl _ _).grown hgrow0 (Nat.le_refl _) (fun k hk => by cases hk)
  have R0 := Lib.hid (show MulRel n m c0 xs w w.heap.size 0 c0 (List.replicate (n + 1) 0) w0 from ⟨hc0, own0, by simp [val], hb0⟩)
  clear hown0 hgrow0 own0 hb0
  generalize w.heap.size = g at R0 ⊢
  go_loopw [8, 19] (fun cv i wr => ∃ (k cy : Nat) (rs : List Nat), k ≤ n ∧ i = .int .i64 k ∧ cv = .int .u32 cy ∧ MulRel n m c0 xs w g k cy rs wr) (fun _ i _ => n - (intOf i).toNat)
  case atStart => exact ⟨0, c0, _, Nat.zero_le _, rfl, rfl, R0.out⟩
  case round =>
    obtain ⟨k, cy, rs, hk, rfl, rfl, R⟩ := hrel
    have hcy := R.1
    by_cases hlt : k < n
    · obtain ⟨b, off, rfl, hb, hc⟩ := HH.out.at_ (by rw [← HN.out]; omega)
      have ex := (R.2.2.2.cell (p := ⟨b, off + k, none⟩) hb).trans (hc k (by rw [← HN.out]; exact hlt))
      obtain ⟨x, hx⟩ : ∃ x, x = xs[k]?.getD 0 := ⟨_, rfl⟩
      rw [← hx] at ex
      have hxl : x < 4294967296 := by rw [hx]; exact HH.out.1.getD k
      have hp : x * m ≤ 4294967295 * 4294967295 := Nat.mul_le_mul (by omega) (by omega)
      obtain ⟨q, hq⟩ : ∃ q : Nat, q = x * m := ⟨_, rfl⟩
      have hq2 : (x : Int) * (m : Int) = (q : Int) := by rw [hq]; simp
      have ec := R.2.1.cell (k := k) (by omega)
      have fc := R.2.1.free k
      have RR := Lib.hid (R.next HN.out.symm hlt hm HH.out.1 hx (z := q + cy) (by rw [hq]))
      have hql : q ≤ 18446744065119617025 := by rw [hq]; exact hp
      clear hc hx R hp hq
      go_wp2
      go_roundw
      case rel => exact ⟨k + 1, (q + cy) / 4294967296, _, by omega, by go_num, by go_num, RR.out⟩
      case measure => simp [intOf] <;> omega
    · obtain rfl : k = n := by omega
      have ec := R.2.1.cell (k := k) (by omega)
      have fc := R.2.1.free k
      have F := Lib.hid (R.last HN.out.symm)
      have HL := Lib.hid HN.out
      clear R hlt hk
      have hsz : (rs.set k cy).length = k + 1 := F.out.1.2.1
      have HSZ := Lib.hid hsz
      clear hsz
      go_wp2_with (go_at_call 60; refine (trim_of F.out.1.reads HSZ.out (by omega)).mono ?_; rintro e w3 ⟨A3, c3, r3, rfl, u3, k3, v3, b3⟩)
      go_ret
      exact ⟨A3, c3, r3, rfl, u3, k3, v3.trans F.out.2.1, F.out.2.2.trans (b3.mono F.out.2.2.size)⟩

end Go.Proofs.Ythkeehfoefjnfaa
