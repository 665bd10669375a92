/-
  limb.Sub: a difference.
-/
import Derived.Test.YthkeehfoefjnfaaAdd
import Derived.Test.YthkeehfoefjnfaaCmp
namespace Go.Proofs.Ythkeehfoefjnfaa
set_option linter.unusedVariables false
set_option linter.unusedSimpArgs false
open Go.RowKit Num

/-- What Sub leaves. -/
def RetS (a b : Nat) (w : World) (e : Ending) (w' : World) : Prop :=
  (a < b → e = .returned (.tuple #[.slice none 0 0, .bool false]) ∧ Below w.heap.size w w') ∧
  (b ≤ a → ∃ A c rs, e = .returned (.tuple #[.slice A rs.length c, .bool true]) ∧ Us w' A c rs ∧ Canon rs ∧ val rs = a - b ∧ Below w.heap.size w w')

def SubRel (n : Nat) (xs ys : List Nat) (w : World) (g k bo : Nat) (rs : List Nat) (wr : World) : Prop :=
  bo ≤ 1 ∧ OwnU wr w.heap.size g n rs ∧ val (rs.take k) + val (ys.take k) = val (xs.take k) + 4294967296 ^ k * bo ∧ Below w.heap.size w wr
theorem SubRel.next {n k bo g : Nat} {xs ys rs : List Nat} {w wr : World} (h : SubRel n xs ys w g k bo rs wr) (hn : xs.length = n) (hk : k < n) (hd : Dig xs) (hd2 : Dig ys) {x y : Nat} (hx : x = xs[k]?.getD 0) (hy : y = ys[k]?.getD 0) :
    SubRel n xs ys w g (k + 1) (subBor x y bo) (rs.set k (subDig x y bo)) (wr.setCell ⟨g, k, none⟩ (.int .u32 ((subDig x y bo : Nat) : Int))) := by
  obtain ⟨h1, h2, h3, h4⟩ := h
  have hl := h2.2.1
  have hxl : x < 4294967296 := by rw [hx]; exact hd.getD k
  have hyl : y < 4294967296 := by rw [hy]; exact hd2.getD k
  refine ⟨subBor_le _ _ _, h2.set k (subDig_lt _ _ _), ?_, h4.setCell (p := ⟨g, k, none⟩) h2.base _⟩
  have e := sub_eq hxl hyl h1
  rw [val_take_set _ (by omega), val_take_getD k, val_take_getD k, ← hx, ← hy, Nat.pow_succ]
  generalize 4294967296 ^ k = p at *
  have e2 : p * subDig x y bo + p * y + p * bo = p * x + p * (4294967296 * subBor x y bo) := by rw [← Nat.mul_add, ← Nat.mul_add, e, Nat.mul_add]
  rw [Nat.mul_assoc]
  omega
theorem SubRel.last {n bo g : Nat} {xs ys rs : List Nat} {w wr : World} (h : SubRel n xs ys w g n bo rs wr) (hn : xs.length = n) (hd : Dig xs) (hle : val ys ≤ val xs) : val rs = val xs - val ys := by
  obtain ⟨h1, h2, h3, h4⟩ := h
  have l1 := val_lt hd
  have l2 := val_lt h2.1
  rw [h2.2.1] at l2
  rw [hn] at l1
  rw [take_all h2.2.1, take_all hn] at h3
  have hy : val (ys.take n) = val ys := by
    rcases Nat.lt_or_ge ys.length n with hlt | hge
    · rw [List.take_of_length_le (by omega)]
    · have := val_split ys n hge
      generalize 4294967296 ^ n = p at *
      rcases Nat.eq_zero_or_pos (val (ys.drop n)) with h0 | h0
      · rw [h0] at this; omega
      · have : p * 1 ≤ p * val (ys.drop n) := Nat.mul_le_mul_left _ h0
        omega
  rw [hy] at h3
  generalize 4294967296 ^ n = p at *
  rcases Nat.le_one_iff_eq_zero_or_eq_one.1 h1 with rfl | rfl
  · omega
  · omega

theorem cmp_val {A B : Option Addr} {c d : Nat} {xs ys : List Nat} {w : World} (h : Us w A c xs) (k : Us w B d ys) {n m : Nat} (hn : n = xs.length) (hm : m = ys.length) (hx : n ≤ 1000000) (hy : m ≤ 1000000) {z : Int} (hz : z = cmpN (val xs) (val ys)) :
    Calls Try.prog 16 #[.slice A n c, .slice B m d] w fun e w' => e = .returned (.int .i64 z) ∧ Below w.heap.size w w' := by
  subst hn hm hz
  exact cmp_any A B c d xs ys w h k hx hy
theorem cmpN_neg {a b : Nat} : cmpN a b < 0 ↔ a < b := by unfold cmpN; split <;> (try split) <;> omega

set_option maxRecDepth 100000 in
set_option maxHeartbeats 1600000 in
theorem sub_any (A B : Option Addr) (c d : Nat) (xs ys : List Nat) (w : World) (h : Us w A c xs) (k : Us w B d ys) (hx : xs.length ≤ 1000000) (hy : ys.length ≤ 1000000) :
    Calls Try.prog 11 #[.slice A xs.length c, .slice B ys.length d] w (RetS (val xs) (val ys) w) := by
  obtain ⟨i0, hi, hz0, hz1, hz2⟩ := info_parts Try.infoU
  obtain ⟨n, hn⟩ : ∃ n, n = xs.length := ⟨_, rfl⟩
  obtain ⟨m, hm⟩ : ∃ m, m = ys.length := ⟨_, rfl⟩
  obtain ⟨z, hz⟩ : ∃ z, z = cmpN (val xs) (val ys) := ⟨_, rfl⟩
  rw [← hn, ← hm]
  have hln : n ≤ 1000000 := by omega
  have hlm : m ≤ 1000000 := by omega
  have HN := Lib.hid hn
  have HM := Lib.hid hm
  have H1 := Lib.hid h
  have H2 := Lib.hid k
  have HI := Lib.hid (And.intro hi (And.intro hz0 (And.intro hz1 hz2)))
  have HZ := Lib.hid hz
  clear h k hi hz0 hz1 hz2 hn hm hx hy hz
  by_cases hlt : val xs < val ys
  · have zneg : z < 0 := by rw [HZ.out]; exact cmpN_neg.2 hlt
    have HLT := Lib.hid hlt
    clear hlt
    go_enter Try.func11, Try.ntmps11
    go_wp2_with (go_at_call 16; refine (cmp_val H1.out H2.out HN.out HM.out hln hlm HZ.out).mono ?_; rintro e w1 ⟨rfl, b1⟩)
    go_ret2
    exact ⟨fun _ => ⟨rfl, b1⟩, fun h => absurd HLT.out (by omega)⟩
  · have zneg : ¬ z < 0 := by rw [HZ.out]; exact fun h => hlt (cmpN_neg.1 h)
    have HLE := Lib.hid (show val ys ≤ val xs by omega)
    clear hlt
    go_enter Try.func11, Try.ntmps11
    go_wp2_with (first
      | (go_at_call 16; refine (cmp_val H1.out H2.out HN.out HM.out hln hlm HZ.out).mono ?_; rintro e w1 ⟨rfl, b1⟩)
      | (at_make; refine wpList_make_full _ rfl _ _ 22 rfl w1.heap.size 35 i0 _ 1 Try.underlying22 HI.out.1 HI.out.2.1 HI.out.2.2.1 .i64 .i64 _ _ n rfl rfl (by omega) (by omega) (by rw [HI.out.2.2.2]; omega) (by unfold maxLen; omega) (Nat.le_refl _) ?_; intro w0 hown0 hgrow0))
    have own0 := OwnU.made hown0
    have hb0 : Below w1.heap.size w1 w0 := (Below.refl _ _).grown hgrow0 (Nat.le_refl _) (fun k hk => by cases hk)
    have R0 := Lib.hid (show SubRel n xs ys w1 w1.heap.size 0 0 (List.replicate n 0) w0 from ⟨by omega, own0, by simp [val], hb0⟩)
    have B1 := Lib.hid b1
    clear hown0 hgrow0 own0 hb0 b1
    generalize w1.heap.size = g at R0 ⊢
    go_loopw [7, 19] (fun cv i wr => ∃ (k bo : Nat) (rs : List Nat), k ≤ n ∧ i = .int .i64 k ∧ cv = .int .u32 bo ∧ SubRel n xs ys w1 g k bo rs wr) (fun _ i _ => n - (intOf i).toNat)
    case atStart => exact ⟨0, 0, _, Nat.zero_le _, rfl, rfl, R0.out⟩
    case round =>
      obtain ⟨k, bo, rs, hk, rfl, rfl, R⟩ := hrel
      have hbo := R.1
      by_cases hlt : k < n
      · have h1' := H1.out.below B1.out
        obtain ⟨b, off, rfl, hb, hc⟩ := h1'.at_ (by rw [← HN.out]; omega)
        have ex := (R.2.2.2.cell (p := ⟨b, off + k, none⟩) hb).trans (hc k (by rw [← HN.out]; exact hlt))
        obtain ⟨x, hxx⟩ : ∃ x, x = xs[k]?.getD 0 := ⟨_, rfl⟩
        obtain ⟨y, hyy⟩ : ∃ y, y = ys[k]?.getD 0 := ⟨_, rfl⟩
        rw [← hxx] at ex
        have hxl : x < 4294967296 := by rw [hxx]; exact H1.out.1.getD k
        have hyl : y < 4294967296 := by rw [hyy]; exact H2.out.1.getD k
        have ec := R.2.1.cell (k := k) (by omega)
        have fc := R.2.1.free k
        have RR := Lib.hid (R.next HN.out.symm hlt H1.out.1 H2.out.1 hxx hyy)
        have H3 := Lib.hid ((H2.out.below B1.out).below R.2.2.2)
        have HY := Lib.hid hyy
        clear hc hxx hyy R h1'
        go_wp2_with (first
          | (go_at_call 59; refine (at_val H3.out HM.out.symm hlm k HY.out).mono ?_; rintro e w' ⟨rfl, rfl⟩)
          | (go_at_call 58; refine (sub32_any x y bo _ hxl hyl hbo).mono ?_; rintro e w' ⟨rfl, rfl⟩))
        go_roundw
        case rel => exact ⟨k + 1, _, _, by omega, by go_num, rfl, RR.out⟩
        case measure => simp [intOf] <;> omega
      · obtain rfl : k = n := by omega
        have F := Lib.hid (R.last HN.out.symm H1.out.1 HLE.out)
        have HSZ := Lib.hid R.2.1.2.1
        have RD := Lib.hid R.2.1.reads
        have HB := Lib.hid R.2.2.2
        clear R hlt hk
        go_wp2_with (go_at_call 60; refine (trim_of RD.out HSZ.out (by omega)).mono ?_; rintro e w3 ⟨A3, c3, r3, rfl, q3, k3, v3, b3⟩)
        go_ret2
        exact ⟨fun h => absurd HLE.out (by omega), fun _ => ⟨A3, c3, r3, rfl, q3, k3, v3.trans F.out, (B1.out.trans (HB.out.mono B1.out.size)).trans (b3.mono (Nat.le_trans B1.out.size HB.out.size))⟩⟩

end Go.Proofs.Ythkeehfoefjnfaa
