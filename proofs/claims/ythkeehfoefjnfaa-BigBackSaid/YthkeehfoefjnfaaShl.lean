/-
  limb.Shl: times a power of two.
-/
import Derived.Test.YthkeehfoefjnfaaTrim
import Derived.Test.YthkeehfoefjnfaaOwn
import Derived.Test.YthkeehfoefjnfaaSmall
namespace Go.Proofs.Ythkeehfoefjnfaa
set_option linter.unusedVariables false
set_option linter.unusedSimpArgs false
open Go.RowKit Num

def ShlRel (wh k n : Nat) (xs : List Nat) (w : World) (g i h : Nat) (rs : List Nat) (wr : World) : Prop :=
  h = rs[wh + i]?.getD 0 ∧ h < 2 ^ (k % 32) ∧ OwnU wr w.heap.size g (wh + n + 1) rs ∧ val (rs.take (wh + i)) + 4294967296 ^ (wh + i) * h = val (xs.take i) * 2 ^ k ∧ Below w.heap.size w wr

theorem shl_hi {x pt : Nat} (hx : x < 4294967296) : x * 2 ^ pt / 4294967296 < 2 ^ pt := by
  rw [Nat.div_lt_iff_lt_mul (by decide), Nat.mul_comm]
  exact Nat.mul_lt_mul_of_pos_left hx (Nat.two_pow_pos pt)
theorem shl_lo {x pt : Nat} (hp : pt < 32) : (x * 2 ^ pt % 4294967296) % 2 ^ pt = 0 := by
  have e : (4294967296 : Nat) = 2 ^ pt * 2 ^ (32 - pt) := by rw [← Nat.pow_add, show pt + (32 - pt) = 32 from by omega]
  rw [e, Nat.mod_mul_right_mod, Nat.mul_mod_left]
theorem shl_sum {x pt h : Nat} (hp : pt < 32) (hh : h < 2 ^ pt) : h + x * 2 ^ pt % 4294967296 < 4294967296 := by
  have e : (4294967296 : Nat) = 2 ^ pt * 2 ^ (32 - pt) := by rw [← Nat.pow_add, show pt + (32 - pt) = 32 from by omega]
  have h1 := shl_lo (x := x) hp
  have h2 : x * 2 ^ pt % 4294967296 < 4294967296 := Nat.mod_lt _ (by decide)
  obtain ⟨q, hq⟩ := Nat.dvd_of_mod_eq_zero h1
  rw [hq] at h2 ⊢
  rw [e] at h2 ⊢
  have h3 : q < 2 ^ (32 - pt) := Nat.lt_of_mul_lt_mul_left h2
  have h4 : 2 ^ pt * (q + 1) ≤ 2 ^ pt * 2 ^ (32 - pt) := Nat.mul_le_mul_left _ h3
  rw [Nat.mul_add] at h4
  omega
theorem shl_or {x pt h : Nat} (hp : pt < 32) (hh : h < 2 ^ pt) : bits .or .u32 (h : Int) ((x * 2 ^ pt % 4294967296 : Nat) : Int) = ((h + x * 2 ^ pt % 4294967296 : Nat) : Int) := by
  have hs := shl_sum (x := x) hp hh
  have e : h ||| x * 2 ^ pt % 4294967296 = h + x * 2 ^ pt % 4294967296 := by
    rw [Nat.or_comm, nat_join pt _ _ (shl_lo hp) hh, Nat.add_comm]
  rw [u32_or_nat _ _ (by omega) (Nat.mod_lt _ (by decide)), e]
theorem shl_wrap {x pt : Nat} (hx : x < 4294967296) (hp : pt < 32) : IntKind.u64.wrap ((x : Int) * 2 ^ pt) = ((x * 2 ^ pt : Nat) : Int) := by
  have h1 : 2 ^ pt ≤ 2 ^ 31 := Nat.pow_le_pow_right (by decide) (by omega)
  have h2 : x * 2 ^ pt ≤ 4294967295 * 2 ^ 31 := Nat.mul_le_mul (by omega) h1
  have e : ((x : Int) * 2 ^ pt) = ((x * 2 ^ pt : Nat) : Int) := by simp
  rw [e]
  generalize x * 2 ^ pt = z at *
  simp only [IntKind.wrap, IntKind.bits, IntKind.signed]
  simp
  omega
theorem ShlRel.next {wh k n g i h : Nat} {xs rs : List Nat} {w wr : World} (R : ShlRel wh k n xs w g i h rs wr) (hn : xs.length = n) (hi : i < n) (hd : Dig xs) (hw : wh = k / 32) {x : Nat} (hx : x = xs[i]?.getD 0) :
    ShlRel wh k n xs w g (i + 1) (x * 2 ^ (k % 32) / 4294967296) ((rs.set (wh + i) (h + x * 2 ^ (k % 32) % 4294967296)).set (wh + i + 1) (x * 2 ^ (k % 32) / 4294967296))
      ((wr.setCell ⟨g, wh + i, none⟩ (.int .u32 ((h + x * 2 ^ (k % 32) % 4294967296 : Nat) : Int))).setCell ⟨g, wh + i + 1, none⟩ (.int .u32 ((x * 2 ^ (k % 32) / 4294967296 : Nat) : Int))) := by
  obtain ⟨h0, h1, h2, h3, h4⟩ := R
  have hl := h2.2.1
  have hxl : x < 4294967296 := by rw [hx]; exact hd.getD i
  have hhi := shl_hi (pt := k % 32) hxl
  have p31 : 2 ^ (k % 32) ≤ 2 ^ 31 := Nat.pow_le_pow_right (by decide) (by omega)
  refine ⟨?_, hhi, (h2.set (wh + i) (shl_sum (by omega) h1)).set (wh + i + 1) (by omega), ?_, (h4.setCell (p := ⟨g, wh + i, none⟩) h2.base _).setCell (p := ⟨g, wh + i + 1, none⟩) h2.base _⟩
  · rw [show wh + (i + 1) = wh + i + 1 from by omega, List.getElem?_set_self (by rw [List.length_set]; omega)]
    rfl
  · have ep : (4294967296 : Nat) ^ wh * 2 ^ (k % 32) = 2 ^ k := by
      rw [show (4294967296 : Nat) = 2 ^ 32 from by decide, ← Nat.pow_mul, ← Nat.pow_add, show 32 * wh + k % 32 = k from by omega]
    rw [show wh + (i + 1) = wh + i + 1 from by omega, List.take_set_of_le (by omega), val_take_set _ (by omega), val_take_succ (by omega : i < xs.length), ← hx, Nat.add_mul, ← h3, Nat.pow_succ, ← ep, Nat.pow_add]
    have ed := Nat.mod_add_div (x * 2 ^ (k % 32)) 4294967296
    generalize 2 ^ (k % 32) = p at *
    generalize (4294967296 : Nat) ^ wh = q at *
    generalize (4294967296 : Nat) ^ i = r at *
    have e2 : q * r * (x * p % 4294967296) + q * r * (4294967296 * (x * p / 4294967296)) = q * r * (x * p) := by rw [← Nat.mul_add, ed]
    have e3 : r * x * (q * p) = q * r * (x * p) := by
      ac_rfl
    rw [Nat.mul_add, Nat.mul_assoc (q * r) 4294967296, e3]
    omega
theorem ShlRel.start {wh k n : Nat} {xs : List Nat} {w w0 : World} {g : Nat} (h : OwnU w0 w.heap.size g (wh + n + 1) (List.replicate (wh + n + 1) 0)) (hb : Below w.heap.size w w0) : ShlRel wh k n xs w g 0 0 (List.replicate (wh + n + 1) 0) w0 :=
  ⟨by simp [List.getElem?_replicate]; split <;> rfl, Nat.two_pow_pos _, h, by rw [List.take_replicate, val_zero]; simp [val], hb⟩
theorem ShlRel.last {wh k n g h : Nat} {xs rs : List Nat} {w wr : World} (R : ShlRel wh k n xs w g n h rs wr) (hn : xs.length = n) : val rs = val xs * 2 ^ k := by
  obtain ⟨h0, h1, h2, h3, h4⟩ := R
  have hl := h2.2.1
  have e := val_take_succ (xs := rs) (k := wh + n) (by omega)
  rw [take_all (by omega : rs.length = wh + n + 1), ← h0] at e
  rw [e, h3, take_all hn]

set_option maxRecDepth 100000 in
set_option maxHeartbeats 1600000 in
theorem shl_yes (A : Option Addr) (c : Nat) (xs : List Nat) (k : Nat) (w : World) (h : Us w A c xs) (hl : xs.length ≤ 100000) (hk : k ≤ 10000) :
    Calls Try.prog 18 #[.slice A xs.length c, .int .i64 (k : Int)] w (RetU (val xs * 2 ^ k) w) := by
  obtain ⟨i0, hi, hz0, hz1, hz2⟩ := info_parts Try.infoU
  obtain ⟨n, hn⟩ : ∃ n, n = xs.length := ⟨_, rfl⟩
  rw [← hn]
  have hln : n ≤ 100000 := by omega
  have HN := Lib.hid hn
  have HH := Lib.hid h
  have HI := Lib.hid (And.intro hi (And.intro hz0 (And.intro hz1 hz2)))
  have hsb : shiftB (k : Int) = true := by simp [shiftB]; omega
  clear h hi hz0 hz1 hz2 hn hl
  obtain ⟨wh, hwh⟩ : ∃ wh, wh = k / 32 := ⟨_, rfl⟩
  obtain ⟨pt, hpt⟩ : ∃ pt, pt = k % 32 := ⟨_, rfl⟩
  have hw1 : wh ≤ 312 := by omega
  have hp1 : pt < 32 := by omega
  have ew : (k : Int) / 32 = (wh : Int) := by omega
  have ep : (k : Int) % 32 = (pt : Int) := by omega
  have HW := Lib.hid (And.intro hwh hpt)
  clear hwh hpt
  go_enter Try.func18, Try.ntmps18
  go_wp2_with (first
    | (go_at_call 68; refine (shift_any _ _).mono ?_; rintro e w' ⟨rfl, rfl⟩)
    | (at_make; refine wpList_make_full _ rfl _ _ 22 rfl w.heap.size 35 i0 _ 1 Try.underlying22 HI.out.1 HI.out.2.1 HI.out.2.2.1 .i64 .i64 _ _ (wh + n + 1) rfl rfl (by omega) (by omega) (by rw [HI.out.2.2.2]; omega) (by unfold maxLen; omega) (Nat.le_refl _) ?_; intro w0 hown0 hgrow0))
  have own0 := OwnU.made hown0
  have hb0 : Below w.heap.size w w0 := (Below.refl _ _).grown hgrow0 (Nat.le_refl _) (fun k hk => by cases hk)
  have R0 := Lib.hid (ShlRel.start (k := k) (xs := xs) own0 hb0)
  clear hown0 hgrow0 own0 hb0 ew ep hsb
  generalize w.heap.size = g at R0 ⊢
  go_loopw [26] (fun iv wr => ∃ (i hh : Nat) (rs : List Nat), i ≤ n ∧ iv = .int .i64 i ∧ ShlRel wh k n xs w g i hh rs wr) (fun iv _ => n - (intOf iv).toNat)
  case atStart => exact ⟨0, 0, _, Nat.zero_le _, rfl, R0.out⟩
  case round =>
    obtain ⟨i, hh, rs, hi, rfl, R⟩ := hrel
    by_cases hlt : i < n
    · obtain ⟨b, off, rfl, hb, hc⟩ := HH.out.at_ (by rw [← HN.out]; omega)
      have ex := (R.2.2.2.2.cell (p := ⟨b, off + i, none⟩) hb).trans (hc i (by rw [← HN.out]; exact hlt))
      obtain ⟨x, hx⟩ : ∃ x, x = xs[i]?.getD 0 := ⟨_, rfl⟩
      rw [← hx] at ex
      have hxl : x < 4294967296 := by rw [hx]; exact HH.out.1.getD i
      have ec := R.2.2.1.cell (k := wh + i) (by omega)
      rw [← R.1] at ec
      have ec2 := R.2.2.1.cell (k := wh + i + 1) (by omega)
      obtain ⟨o, ho⟩ : ∃ o, o = rs[wh + i + 1]?.getD 0 := ⟨_, rfl⟩
      rw [← ho] at ec2
      clear ho
      have fc := R.2.2.1.free (wh + i)
      have fc2 := R.2.2.1.free (wh + i + 1)
      have hhp := R.2.1
      have RR := Lib.hid (R.next HN.out.symm hlt HH.out.1 HW.out.1 hx)
      have E1 := Lib.hid (shl_wrap (pt := pt) hxl hp1)
      have E2 := Lib.hid (shl_or (x := x) hp1 (h := hh) (by rw [HW.out.2]; exact hhp))
      have E3 := Lib.hid (shl_hi (pt := pt) hxl)
      clear hc hx R hhp
      go_wp2
      go_roundw
      case rel =>
        refine ⟨i + 1, x * 2 ^ pt / 4294967296, (rs.set (wh + i) (hh + x * 2 ^ pt % 4294967296)).set (wh + i + 1) (x * 2 ^ pt / 4294967296), by omega, by go_num, ?_⟩
        have p31 : 2 ^ pt ≤ 2 ^ 31 := Nat.pow_le_pow_right (by decide) (by omega)
        have e3 := E3.out
        rw [E1.out, show ((x * 2 ^ pt : Nat) : Int) % 4294967296 = ((x * 2 ^ pt % 4294967296 : Nat) : Int) from by simp, E2.out, show ((x * 2 ^ pt : Nat) : Int) / 4294967296 % 4294967296 = ((x * 2 ^ pt / 4294967296 : Nat) : Int) from by
          generalize x * 2 ^ pt = z at *
          omega]
        rw [HW.out.2]
        exact RR.out
      case measure => simp [intOf] <;> omega
    · obtain rfl : i = n := by omega
      have F := Lib.hid (R.last HN.out.symm)
      have HSZ := Lib.hid R.2.2.1.2.1
      have RD := Lib.hid R.2.2.1.reads
      have HB := Lib.hid R.2.2.2.2
      clear R hlt hi
      go_wp2_with (go_at_call 60; refine (trim_of RD.out HSZ.out (by omega)).mono ?_; rintro e w3 ⟨A3, c3, r3, rfl, q3, k3, v3, b3⟩)
      go_ret
      exact ⟨A3, c3, r3, rfl, q3, k3, v3.trans F.out, HB.out.trans (b3.mono HB.out.size)⟩

theorem shl_no (A : Option Addr) (c n : Nat) (k : Int) (w : World) (hk : k < 0 ∨ 10000 < k) :
    Calls Try.prog 18 #[.slice A n c, .int .i64 k] w (RetU 0 w) := by
  have hsb : shiftB k = false := by simp [shiftB]; omega
  go_enter Try.func18, Try.ntmps18
  go_wp2_with (go_at_call 68; refine (shift_any _ _).mono ?_; rintro e w' ⟨rfl, rfl⟩)
  go_ret
  exact ⟨none, 0, [], rfl, Us.nil _, canon_nil, rfl, Below.refl _ _⟩

end Go.Proofs.Ythkeehfoefjnfaa
