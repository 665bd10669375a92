/-
  limb.Mul: times a number, and one more.
  limb.Add: a sum.
  limb.Sub: a difference.
  limb.Shl: times a power of two.
-/
import Derived.Test.YteekijmhghokkaaDoorLimbB
import Derived.Test.YteekijmhghokkaaDoorLimbA
import Derived.Deep.DeepCutAuto

namespace Go.Proofs.YteekijmhghokkaaDoor
set_option linter.unusedVariables false
set_option linter.unusedSimpArgs false
open Go.RowKit Num
theorem mul_step {p w1 w0 cy r x m c0 : Nat} (h : r + p * cy = w0 * m + c0) (hw : w1 = w0 + p * x) : (r + p * ((x * m + cy) % 4294967296)) + (p * 4294967296) * ((x * m + cy) / 4294967296) = w1 * m + c0 := by
  have e := Nat.mod_add_div (x * m + cy) 4294967296
  have e2 : p * ((x * m + cy) % 4294967296) + p * (4294967296 * ((x * m + cy) / 4294967296)) = p * (x * m + cy) := by rw [← Nat.mul_add, e]
  subst hw
  rw [Nat.mul_assoc, Nat.add_mul, Nat.mul_assoc p x m]
  rw [Nat.mul_add] at e2
  omega
def MulRel (n m c0 : Nat) (xs : List Nat) (w : World) (g k cy : Nat) (rs : List Nat) (wr : World) : Prop :=
  cy < 4294967296 ∧ OwnU wr w.heap.size g (n + 1) rs ∧ val (rs.take k) + 4294967296 ^ k * cy = val (xs.take k) * m + c0 ∧ Below w.heap.size w wr
theorem MulRel.next {n m c0 k cy g : Nat} {xs rs : List Nat} {w wr : World} (h : MulRel n m c0 xs w g k cy rs wr) (hn : xs.length = n) (hk : k < n) (hm : m < 4294967296) (hd : Dig xs) {x z : Nat} (hx : x = xs[k]?.getD 0) (hz : z = x * m + cy) :
    MulRel n m c0 xs w g (k + 1) (z / 4294967296) (rs.set k (z % 4294967296)) (wr.setCell ⟨g, k, none⟩ (.int .u32 ((z % 4294967296 : Nat) : Int))) := by
  obtain ⟨h1, h2, h3, h4⟩ := h
  have hl := h2.2.1
  have hxl : x < 4294967296 := by rw [hx]; exact hd.getD k
  have hp : x * m ≤ 4294967295 * 4294967295 := Nat.mul_le_mul (by omega) (by omega)
  refine ⟨by omega, h2.set k (Nat.mod_lt _ (by decide)), ?_, h4.setCell (p := ⟨g, k, none⟩) h2.base _⟩
  rw [val_take_set _ (by omega), Nat.pow_succ, hz]
  exact mul_step h3 (by rw [val_take_succ (by omega), ← hx])
theorem MulRel.last {n m c0 cy g : Nat} {xs rs : List Nat} {w wr : World} (h : MulRel n m c0 xs w g n cy rs wr) (hn : xs.length = n) :
    OwnU (wr.setCell ⟨g, n, none⟩ (.int .u32 (cy : Int))) w.heap.size g (n + 1) (rs.set n cy) ∧ val (rs.set n cy) = val xs * m + c0 ∧ Below w.heap.size w (wr.setCell ⟨g, n, none⟩ (.int .u32 (cy : Int))) := by
  obtain ⟨h1, h2, h3, h4⟩ := h
  have h5 := h2.set n h1
  refine ⟨h5, ?_, h4.setCell (p := ⟨g, n, none⟩) h2.base _⟩
  have e := val_take_set (rs := rs) (k := n) cy (by have := h2.2.1; omega)
  rw [take_all (n := n + 1) (by simpa using h2.2.1)] at e
  rw [e, h3, take_all hn]
set_option maxRecDepth 100000 in
set_option maxHeartbeats 1600000 in
theorem mul_any (A : Option Addr) (c : Nat) (xs : List Nat) (m c0 : Nat) (w : World) (h : Us w A c xs) (hl : xs.length < 1000000) (hm : m < 4294967296) (hc0 : c0 < 4294967296) :
    Calls Tryd.prog 35 #[.slice A xs.length c, .int .u32 m, .int .u32 c0] w (RetU (val xs * m + c0) w) := by
  obtain ⟨i0, hi, hz0, hz1, hz2⟩ := info_parts Tryd.infoU
  obtain ⟨n, hn⟩ : ∃ n, n = xs.length := ⟨_, rfl⟩
  rw [← hn]
  have hln : n < 1000000 := by omega
  have HN := Lib.hid hn
  have HH := Lib.hid h
  have HI := Lib.hid (And.intro hi (And.intro hz0 (And.intro hz1 hz2)))
  clear h hi hz0 hz1 hz2 hn hl
  go_enter Tryd.func35, Tryd.ntmps35
  go_wp2_with (first
    | (at_make; refine wpList_make_full _ rfl _ _ 22 rfl w.heap.size 48 i0 _ 1 Tryd.underlying22 HI.out.1 HI.out.2.1 HI.out.2.2.1 .i64 .i64 _ _ (n + 1) rfl rfl (by omega) (by omega) (by rw [HI.out.2.2.2]; omega) (by unfold maxLen; omega) (Nat.le_refl _) ?_; intro w0 hown0 hgrow0))
  have own0 := OwnU.made hown0
  have hb0 : Below w.heap.size w w0 := (Below.refl _ _).grown hgrow0 (Nat.le_refl _) (fun k hk => by cases hk)
  have R0 := Lib.hid (show MulRel n m c0 xs w w.heap.size 0 c0 (List.replicate (n + 1) 0) w0 from ⟨hc0, own0, by simp [val], hb0⟩)
  clear hown0 hgrow0 own0 hb0
  generalize w.heap.size = g at R0 ⊢
  go_loopw [8, 19] (fun cv i wr => ∃ (k cy : Nat) (rs : List Nat), k ≤ n ∧ i = .int .i64 k ∧ cv = .int .u32 cy ∧ MulRel n m c0 xs w g k cy rs wr) (fun _ i _ => n - (intOf i).toNat)
  case atStart => exact ⟨0, c0, _, Nat.zero_le _, rfl, rfl, R0.out⟩
  case round =>
    obtain ⟨k, cy, rs, hk, rfl, rfl, R⟩ := hrel
    have hcy := R.1
    by_cases hlt : k < n
    · obtain ⟨b, off, rfl, hb, hc⟩ := HH.out.at_ (by rw [← HN.out]; omega)
      have ex := (R.2.2.2.cell (p := ⟨b, off + k, none⟩) hb).trans (hc k (by rw [← HN.out]; exact hlt))
      obtain ⟨x, hx⟩ : ∃ x, x = xs[k]?.getD 0 := ⟨_, rfl⟩
      rw [← hx] at ex
      have hxl : x < 4294967296 := by rw [hx]; exact HH.out.1.getD k
      have hp : x * m ≤ 4294967295 * 4294967295 := Nat.mul_le_mul (by omega) (by omega)
      obtain ⟨q, hq⟩ : ∃ q : Nat, q = x * m := ⟨_, rfl⟩
      have hq2 : (x : Int) * (m : Int) = (q : Int) := by rw [hq]; simp
      have ec := R.2.1.cell (k := k) (by omega)
      have fc := R.2.1.free k
      have RR := Lib.hid (R.next HN.out.symm hlt hm HH.out.1 hx (z := q + cy) (by rw [hq]))
      have hql : q ≤ 18446744065119617025 := by rw [hq]; exact hp
      clear hc hx R hp hq
      go_wp2
      go_roundw
      case rel => exact ⟨k + 1, (q + cy) / 4294967296, _, by omega, by go_num, by go_num, RR.out⟩
      case measure => simp [intOf] <;> omega
    · obtain rfl : k = n := by omega
      have ec := R.2.1.cell (k := k) (by omega)
      have fc := R.2.1.free k
      have F := Lib.hid (R.last HN.out.symm)
      have HL := Lib.hid HN.out
      clear R hlt hk
      have hsz : (rs.set k cy).length = k + 1 := F.out.1.2.1
      have HSZ := Lib.hid hsz
      clear hsz
      go_wp2_with (go_at_call 45; refine (trim_of F.out.1.reads HSZ.out (by omega)).mono ?_; rintro e w3 ⟨A3, c3, r3, rfl, u3, k3, v3, b3⟩)
      go_ret
      exact ⟨A3, c3, r3, rfl, u3, k3, v3.trans F.out.2.1, F.out.2.2.trans (b3.mono F.out.2.2.size)⟩
end Go.Proofs.YteekijmhghokkaaDoor

namespace Go.Proofs.YteekijmhghokkaaDoor
set_option linter.unusedVariables false
set_option linter.unusedSimpArgs false
open Go.RowKit Num
/-- The first k limbs' number; behind the last one there are noughts. -/
theorem val_take_getD {xs : List Nat} (k : Nat) : val (xs.take (k + 1)) = val (xs.take k) + 4294967296 ^ k * xs[k]?.getD 0 := by
  rcases Nat.lt_or_ge k xs.length with h | h
  · exact val_take_succ h
  · rw [List.take_of_length_le (by omega), List.take_of_length_le (by omega), List.getElem?_eq_none h]
    simp
def AddRel (n : Nat) (xs ys : List Nat) (w : World) (g k cy : Nat) (rs : List Nat) (wr : World) : Prop :=
  cy ≤ 1 ∧ OwnU wr w.heap.size g (n + 1) rs ∧ val (rs.take k) + 4294967296 ^ k * cy = val (xs.take k) + val (ys.take k) ∧ Below w.heap.size w wr
theorem AddRel.next {n k cy g : Nat} {xs ys rs : List Nat} {w wr : World} (h : AddRel n xs ys w g k cy rs wr) (hn : xs.length = n) (hk : k < n) (hd : Dig xs) (hd2 : Dig ys) {x y : Nat} (hx : x = xs[k]?.getD 0) (hy : y = ys[k]?.getD 0) :
    AddRel n xs ys w g (k + 1) (addCar x y cy) (rs.set k (addDig x y cy)) (wr.setCell ⟨g, k, none⟩ (.int .u32 ((addDig x y cy : Nat) : Int))) := by
  obtain ⟨h1, h2, h3, h4⟩ := h
  have hl := h2.2.1
  have hxl : x < 4294967296 := by rw [hx]; exact hd.getD k
  have hyl : y < 4294967296 := by rw [hy]; exact hd2.getD k
  refine ⟨addCar_le hxl hyl h1, h2.set k (addDig_lt _ _ _), ?_, h4.setCell (p := ⟨g, k, none⟩) h2.base _⟩
  have e := add_eq x y cy
  rw [val_take_set _ (by omega), val_take_getD k, val_take_getD k, ← hx, ← hy, Nat.pow_succ]
  generalize 4294967296 ^ k = p at *
  have e2 : p * (addDig x y cy) + p * (4294967296 * addCar x y cy) = p * x + p * y + p * cy := by rw [← Nat.mul_add, e, Nat.mul_add, Nat.mul_add]
  rw [Nat.mul_assoc]
  omega
theorem AddRel.last {n cy g : Nat} {xs ys rs : List Nat} {w wr : World} (h : AddRel n xs ys w g n cy rs wr) (hn : xs.length = n) (hm : ys.length ≤ n) :
    OwnU (wr.setCell ⟨g, n, none⟩ (.int .u32 (cy : Int))) w.heap.size g (n + 1) (rs.set n cy) ∧ val (rs.set n cy) = val xs + val ys ∧ Below w.heap.size w (wr.setCell ⟨g, n, none⟩ (.int .u32 (cy : Int))) := by
  obtain ⟨h1, h2, h3, h4⟩ := h
  have h5 := h2.set n (u := cy) (by omega)
  refine ⟨h5, ?_, h4.setCell (p := ⟨g, n, none⟩) h2.base _⟩
  have e := val_take_set (rs := rs) (k := n) cy (by have := h2.2.1; omega)
  rw [take_all (n := n + 1) (by simpa using h2.2.1)] at e
  rw [e, h3, take_all hn, List.take_of_length_le hm]
end Go.Proofs.YteekijmhghokkaaDoor

namespace Go.Proofs.YteekijmhghokkaaDoor
set_option linter.unusedVariables false
set_option linter.unusedSimpArgs false
open Go.RowKit Num
/-- What Sub leaves. -/
def RetS (a b : Nat) (w : World) (e : Ending) (w' : World) : Prop :=
  (a < b → e = .returned (.tuple #[.slice none 0 0, .bool false]) ∧ Below w.heap.size w w') ∧
  (b ≤ a → ∃ A c rs, e = .returned (.tuple #[.slice A rs.length c, .bool true]) ∧ Us w' A c rs ∧ Canon rs ∧ val rs = a - b ∧ Below w.heap.size w w')
def SubRel (n : Nat) (xs ys : List Nat) (w : World) (g k bo : Nat) (rs : List Nat) (wr : World) : Prop :=
  bo ≤ 1 ∧ OwnU wr w.heap.size g n rs ∧ val (rs.take k) + val (ys.take k) = val (xs.take k) + 4294967296 ^ k * bo ∧ Below w.heap.size w wr
theorem SubRel.next {n k bo g : Nat} {xs ys rs : List Nat} {w wr : World} (h : SubRel n xs ys w g k bo rs wr) (hn : xs.length = n) (hk : k < n) (hd : Dig xs) (hd2 : Dig ys) {x y : Nat} (hx : x = xs[k]?.getD 0) (hy : y = ys[k]?.getD 0) :
    SubRel n xs ys w g (k + 1) (subBor x y bo) (rs.set k (subDig x y bo)) (wr.setCell ⟨g, k, none⟩ (.int .u32 ((subDig x y bo : Nat) : Int))) := by
  obtain ⟨h1, h2, h3, h4⟩ := h
  have hl := h2.2.1
  have hxl : x < 4294967296 := by rw [hx]; exact hd.getD k
  have hyl : y < 4294967296 := by rw [hy]; exact hd2.getD k
  refine ⟨subBor_le _ _ _, h2.set k (subDig_lt _ _ _), ?_, h4.setCell (p := ⟨g, k, none⟩) h2.base _⟩
  have e := sub_eq hxl hyl h1
  rw [val_take_set _ (by omega), val_take_getD k, val_take_getD k, ← hx, ← hy, Nat.pow_succ]
  generalize 4294967296 ^ k = p at *
  have e2 : p * subDig x y bo + p * y + p * bo = p * x + p * (4294967296 * subBor x y bo) := by rw [← Nat.mul_add, ← Nat.mul_add, e, Nat.mul_add]
  rw [Nat.mul_assoc]
  omega
theorem SubRel.last {n bo g : Nat} {xs ys rs : List Nat} {w wr : World} (h : SubRel n xs ys w g n bo rs wr) (hn : xs.length = n) (hd : Dig xs) (hle : val ys ≤ val xs) : val rs = val xs - val ys := by
  obtain ⟨h1, h2, h3, h4⟩ := h
  have l1 := val_lt hd
  have l2 := val_lt h2.1
  rw [h2.2.1] at l2
  rw [hn] at l1
  rw [take_all h2.2.1, take_all hn] at h3
  have hy : val (ys.take n) = val ys := by
    rcases Nat.lt_or_ge ys.length n with hlt | hge
    · rw [List.take_of_length_le (by omega)]
    · have := val_split ys n hge
      generalize 4294967296 ^ n = p at *
      rcases Nat.eq_zero_or_pos (val (ys.drop n)) with h0 | h0
      · rw [h0] at this; omega
      · have : p * 1 ≤ p * val (ys.drop n) := Nat.mul_le_mul_left _ h0
        omega
  rw [hy] at h3
  generalize 4294967296 ^ n = p at *
  rcases Nat.le_one_iff_eq_zero_or_eq_one.1 h1 with rfl | rfl
  · omega
  · omega
theorem cmpN_neg {a b : Nat} : cmpN a b < 0 ↔ a < b := by unfold cmpN; split <;> (try split) <;> omega
end Go.Proofs.YteekijmhghokkaaDoor

namespace Go.Proofs.YteekijmhghokkaaDoor
set_option linter.unusedVariables false
set_option linter.unusedSimpArgs false
open Go.RowKit Num
def ShlRel (wh k n : Nat) (xs : List Nat) (w : World) (g i h : Nat) (rs : List Nat) (wr : World) : Prop :=
  h = rs[wh + i]?.getD 0 ∧ h < 2 ^ (k % 32) ∧ OwnU wr w.heap.size g (wh + n + 1) rs ∧ val (rs.take (wh + i)) + 4294967296 ^ (wh + i) * h = val (xs.take i) * 2 ^ k ∧ Below w.heap.size w wr
theorem shl_hi {x pt : Nat} (hx : x < 4294967296) : x * 2 ^ pt / 4294967296 < 2 ^ pt := by
  rw [Nat.div_lt_iff_lt_mul (by decide), Nat.mul_comm]
  exact Nat.mul_lt_mul_of_pos_left hx (Nat.two_pow_pos pt)
theorem shl_lo {x pt : Nat} (hp : pt < 32) : (x * 2 ^ pt % 4294967296) % 2 ^ pt = 0 := by
  have e : (4294967296 : Nat) = 2 ^ pt * 2 ^ (32 - pt) := by rw [← Nat.pow_add, show pt + (32 - pt) = 32 from by omega]
  rw [e, Nat.mod_mul_right_mod, Nat.mul_mod_left]
theorem shl_sum {x pt h : Nat} (hp : pt < 32) (hh : h < 2 ^ pt) : h + x * 2 ^ pt % 4294967296 < 4294967296 := by
  have e : (4294967296 : Nat) = 2 ^ pt * 2 ^ (32 - pt) := by rw [← Nat.pow_add, show pt + (32 - pt) = 32 from by omega]
  have h1 := shl_lo (x := x) hp
  have h2 : x * 2 ^ pt % 4294967296 < 4294967296 := Nat.mod_lt _ (by decide)
  obtain ⟨q, hq⟩ := Nat.dvd_of_mod_eq_zero h1
  rw [hq] at h2 ⊢
  rw [e] at h2 ⊢
  have h3 : q < 2 ^ (32 - pt) := Nat.lt_of_mul_lt_mul_left h2
  have h4 : 2 ^ pt * (q + 1) ≤ 2 ^ pt * 2 ^ (32 - pt) := Nat.mul_le_mul_left _ h3
  rw [Nat.mul_add] at h4
  omega
theorem ShlRel.next {wh k n g i h : Nat} {xs rs : List Nat} {w wr : World} (R : ShlRel wh k n xs w g i h rs wr) (hn : xs.length = n) (hi : i < n) (hd : Dig xs) (hw : wh = k / 32) {x : Nat} (hx : x = xs[i]?.getD 0) :
    ShlRel wh k n xs w g (i + 1) (x * 2 ^ (k % 32) / 4294967296) ((rs.set (wh + i) (h + x * 2 ^ (k % 32) % 4294967296)).set (wh + i + 1) (x * 2 ^ (k % 32) / 4294967296))
      ((wr.setCell ⟨g, wh + i, none⟩ (.int .u32 ((h + x * 2 ^ (k % 32) % 4294967296 : Nat) : Int))).setCell ⟨g, wh + i + 1, none⟩ (.int .u32 ((x * 2 ^ (k % 32) / 4294967296 : Nat) : Int))) := by
  obtain ⟨h0, h1, h2, h3, h4⟩ := R
  have hl := h2.2.1
  have hxl : x < 4294967296 := by rw [hx]; exact hd.getD i
  have hhi := shl_hi (pt := k % 32) hxl
  have p31 : 2 ^ (k % 32) ≤ 2 ^ 31 := Nat.pow_le_pow_right (by decide) (by omega)
  refine ⟨?_, hhi, (h2.set (wh + i) (shl_sum (by omega) h1)).set (wh + i + 1) (by omega), ?_, (h4.setCell (p := ⟨g, wh + i, none⟩) h2.base _).setCell (p := ⟨g, wh + i + 1, none⟩) h2.base _⟩
  · rw [show wh + (i + 1) = wh + i + 1 from by omega, List.getElem?_set_self (by rw [List.length_set]; omega)]
    rfl
  · have ep : (4294967296 : Nat) ^ wh * 2 ^ (k % 32) = 2 ^ k := by
      rw [show (4294967296 : Nat) = 2 ^ 32 from by decide, ← Nat.pow_mul, ← Nat.pow_add, show 32 * wh + k % 32 = k from by omega]
    rw [show wh + (i + 1) = wh + i + 1 from by omega, List.take_set_of_le (by omega), val_take_set _ (by omega), val_take_succ (by omega : i < xs.length), ← hx, Nat.add_mul, ← h3, Nat.pow_succ, ← ep, Nat.pow_add]
    have ed := Nat.mod_add_div (x * 2 ^ (k % 32)) 4294967296
    generalize 2 ^ (k % 32) = p at *
    generalize (4294967296 : Nat) ^ wh = q at *
    generalize (4294967296 : Nat) ^ i = r at *
    have e2 : q * r * (x * p % 4294967296) + q * r * (4294967296 * (x * p / 4294967296)) = q * r * (x * p) := by rw [← Nat.mul_add, ed]
    have e3 : r * x * (q * p) = q * r * (x * p) := by
      ac_rfl
    rw [Nat.mul_add, Nat.mul_assoc (q * r) 4294967296, e3]
    omega
theorem ShlRel.start {wh k n : Nat} {xs : List Nat} {w w0 : World} {g : Nat} (h : OwnU w0 w.heap.size g (wh + n + 1) (List.replicate (wh + n + 1) 0)) (hb : Below w.heap.size w w0) : ShlRel wh k n xs w g 0 0 (List.replicate (wh + n + 1) 0) w0 :=
  ⟨by simp [List.getElem?_replicate]; split <;> rfl, Nat.two_pow_pos _, h, by rw [List.take_replicate, val_zero]; simp [val], hb⟩
theorem ShlRel.last {wh k n g h : Nat} {xs rs : List Nat} {w wr : World} (R : ShlRel wh k n xs w g n h rs wr) (hn : xs.length = n) : val rs = val xs * 2 ^ k := by
  obtain ⟨h0, h1, h2, h3, h4⟩ := R
  have hl := h2.2.1
  have e := val_take_succ (xs := rs) (k := wh + n) (by omega)
  rw [take_all (by omega : rs.length = wh + n + 1), ← h0] at e
  rw [e, h3, take_all hn]
end Go.Proofs.YteekijmhghokkaaDoor
