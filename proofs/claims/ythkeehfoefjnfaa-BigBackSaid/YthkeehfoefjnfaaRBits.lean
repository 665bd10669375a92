/-
  The reference's Bits, cut: a number's bits.
-/
import Derived.Test.YthkeehfoefjnfaaNorm
import Derived.Test.YthkeehfoefjnfaaOwn
import Derived.Test.YthkeehfoefjnfaaSmall
import Derived.Deep.QuietTactic
import Derived.BigQuiet
namespace Go.Proofs.Ythkeehfoefjnfaa
set_option linter.unusedVariables false
set_option linter.unusedSimpArgs false
open Go.RowKit Num

theorem Bl.take {w : World} {A : Option Addr} {c : Nat} {bs : List Bool} (h : Bl w A c bs) {k : Nat} (hk : k ≤ bs.length) : Bl w A c (bs.take k) := by
  refine ⟨?_, h.2.1, fun hn => ?_⟩
  · have := h.1
    simp only [List.length_map, List.length_take] at this ⊢
    omega
  · simp only [List.length_map, List.length_take] at hn
    obtain ⟨b, off, e, hb, hc⟩ := h.2.2 (by simp; omega)
    refine ⟨b, off, e, hb, fun j u hu => hc j u ?_⟩
    rw [List.map_take, List.getElem?_take] at hu
    split at hu
    · exact hu
    · cases hu

theorem Bl.drop {w : World} {b off c : Nat} {bs : List Bool} (h : Bl w (some ⟨b, off, none⟩) c bs) {k : Nat} (hk : k ≤ bs.length) : Bl w (some ⟨b, off + k, none⟩) (c - k) (bs.drop k) := by
  have h1 := h.1
  have h2 := h.2.1
  refine ⟨by simp only [List.length_map, List.length_drop] at h1 ⊢; omega, by simp only [maxLen] at h2 ⊢; omega, fun hn => ?_⟩
  simp only [List.length_map, List.length_drop] at hn
  obtain ⟨b', off', e, hb, hc⟩ := h.2.2 (by simp; omega)
  cases e
  refine ⟨b, off + k, rfl, hb, fun j u hu => ?_⟩
  rw [Nat.add_assoc]
  refine hc (k + j) u ?_
  rwa [List.map_drop, List.getElem?_drop] at hu
theorem rat_val {A : Option Addr} {c : Nat} {bs : List Bool} {i : Int} {w : World} (h : Bl w A c bs) (hl : bs.length ≤ 100000000) {r : Bool} (hr : r = (decide (0 ≤ i) && bs[i.toNat]?.getD false)) :
    Calls Try.prog 62 #[.slice A bs.length c, .int .i64 i] w fun e w' => e = .returned (.bool r) ∧ w = w' := by
  subst hr
  exact rat_any A c bs i w h hl

/-- What cut leaves: a piece of what it was given. -/
def RetC (A : Option Addr) (c : Nat) (bs : List Bool) (w : World) (e : Ending) (w' : World) : Prop :=
  ∃ k, k ≤ bs.length ∧ e = .returned (.slice A k c) ∧ CanonB (bs.take k) ∧ bval (bs.take k) = bval bs ∧ Below w.heap.size w w'

theorem canonB_take {xs : List Bool} {k : Nat} (hk : k < xs.length) (hn : xs[k]?.getD false = true) : CanonB (xs.take (k + 1)) := by
  rw [btake_succ hk]
  simpa [CanonB] using hn

set_option maxRecDepth 100000 in
set_option maxHeartbeats 800000 in
theorem cut_any (A : Option Addr) (c : Nat) (bs : List Bool) (w : World) (h : Bl w A c bs) (hl : bs.length ≤ 100000000) :
    Calls Try.prog 76 #[.slice A bs.length c] w (RetC A c bs w) := by
  obtain ⟨n, hn⟩ : ∃ n, n = bs.length := ⟨_, rfl⟩
  have hcap := h.cap
  rw [← hn] at hl hcap ⊢
  have HN := Lib.hid hn
  have HH := Lib.hid h
  clear h hn
  go_enter Try.func76, Try.ntmps76
  go_wp2
  go_loopw [0] (fun v wr => ∃ k : Nat, k ≤ n ∧ v = .slice A k c ∧ bval (bs.take k) = bval bs ∧ Below w.heap.size w wr) (fun v _ => match v with | .slice _ k _ => k | _ => 0)
  case atStart => exact ⟨n, Nat.le_refl _, rfl, by rw [List.take_of_length_le (by rw [← HN.out]; exact Nat.le_refl _)], Below.refl _ _⟩
  case round =>
    obtain ⟨k, hk, rfl, hv, hb⟩ := hrel
    have HV := Lib.hid hv
    have HB := Lib.hid hb
    clear hv hb
    by_cases h0 : 0 < k
    · obtain ⟨q, rfl⟩ : ∃ q, k = q + 1 := ⟨k - 1, by omega⟩
      obtain ⟨b, off, rfl, hb, hc⟩ := HH.out.at_ (by rw [← HN.out]; omega)
      have e1 := (HB.out.cell (p := ⟨b, off + q, none⟩) hb).trans (hc q (by rw [← HN.out]; omega))
      obtain ⟨x, hx⟩ : ∃ x, x = bs[q]?.getD false := ⟨_, rfl⟩
      rw [← hx] at e1
      have HX := Lib.hid hx
      clear hc hx
      have hq1 : (q : Int) < (c : Int) := by omega
      cases x
      · go_wp2
        go_roundw
        case rel => exact ⟨q, by omega, rfl, (bval_cut (by rw [← HN.out]; omega) HX.out.symm).symm.trans HV.out, HB.out⟩
        case measure => simp
      · go_wp2
        go_ret
        exact ⟨q + 1, by rw [← HN.out]; exact hk, rfl, canonB_take (by rw [← HN.out]; omega) HX.out.symm, HV.out, HB.out⟩
    · obtain rfl : k = 0 := by omega
      go_wp2
      go_ret
      exact ⟨0, Nat.zero_le _, rfl, by simp [CanonB], HV.out, HB.out⟩

/-- Bits that the call appends, one by one. -/
def OutB (w : World) (base : Nat) (v : Value) (bs : List Bool) : Prop := w.ownsRow base 4 1 v bs.length (bs.map Value.bool)
theorem OutB.nil (w : World) (base : Nat) : OutB w base (.slice none 0 0) [] := World.ownsRow_nil _ _ _ _
theorem OutB.shape {w : World} {base : Nat} {v : Value} {bs : List Bool} (h : OutB w base v bs) : ∃ A c, v = .slice A bs.length c := own_shape h
theorem OutB.reads {w : World} {base : Nat} {A : Option Addr} {n c : Nat} {bs : List Bool} (h : OutB w base (.slice A n c) bs) (hn : n = bs.length) : Bl w A c bs := by
  subst hn
  exact Rd.own h
theorem OutB.below {w w' : World} {base : Nat} {v : Value} {bs : List Bool} (h : OutB w base v bs) (hb : Below w.heap.size w w') : OutB w' base v bs := ownsRow_below h hb
/-- What append leaves. -/
theorem OutB.snoc {w w0 w1 : World} {base : Nat} {v v' : Value} {bs : List Bool} {b : Bool} {o : Obj} (h : OutB w base v bs) (hb : Below base w0 w) (h0 : base ≤ w0.heap.size)
    (hown : w1.ownsRow base 4 1 v' (bs.length + 1) (bs.map Value.bool ++ [.bool b])) (hg : (w.alloc o).grownBy w1 v.ownBlock) :
    OutB w1 base v' (bs ++ [b]) ∧ Below base w0 w1 := by
  refine ⟨?_, ?_⟩
  · unfold OutB
    rw [List.length_append, List.map_append]
    exact hown
  · have hs := hb.size
    refine (hb.alloc (Nat.le_trans h0 hs) o).grown hg (by simp; omega) (fun k hk => ?_)
    rcases h.2 with ⟨rfl, _⟩ | ⟨g, cap, cur, rfl, h2, _⟩
    · cases hk
    · cases hk
      exact h2

def BitsRel (n i j x y : Nat) (xs : List Nat) (w : World) (v : Value) (wr : World) : Prop :=
  ∃ bs, OutB wr w.heap.size v bs ∧ bs.length = 32 * i + j ∧ bval bs = val (xs.take i) + 2 ^ (32 * i) * (x % 2 ^ j) ∧ y = x / 2 ^ j ∧ Below w.heap.size w wr
theorem BitsRel.next {n i j x y : Nat} {xs : List Nat} {w wr w1 : World} {v v' : Value} {bs : List Bool} {o : Obj} {b : Bool} (h0 : OutB wr w.heap.size v bs) (h1 : bs.length = 32 * i + j) (h2 : bval bs = val (xs.take i) + 2 ^ (32 * i) * (x % 2 ^ j)) (h3 : y = x / 2 ^ j) (h4 : Below w.heap.size w wr)
    (hb : b = (y % 2 == 1)) (hown : w1.ownsRow w.heap.size 4 1 v' (bs.length + 1) (bs.map Value.bool ++ [.bool b])) (hg : (wr.alloc o).grownBy w1 v.ownBlock) : BitsRel n i (j + 1) x (y / 2) xs w v' w1 := by
  obtain ⟨k1, k2⟩ := h0.snoc h4 (Nat.le_refl _) hown hg
  refine ⟨_, k1, by rw [List.length_append, h1]; rfl, ?_, by rw [h3, Nat.div_div_eq_div_mul, Nat.pow_succ], k2⟩
  rw [bval_append, h2, h1, Nat.mod_pow_succ, Nat.pow_add, Nat.mul_add, ← Nat.mul_assoc, ← h3, Nat.add_assoc]
  congr 2
  have : bval [b] = y % 2 := by
    rw [hb]
    rcases Nat.mod_two_eq_zero_or_one y with h | h <;> rw [h] <;> rfl
  rw [this]
theorem BitsRel.turn {n i x y : Nat} {xs : List Nat} {w wr : World} {v : Value} (h : BitsRel n i 32 x y xs w v wr) (hi : i < xs.length) (hx : x = xs[i]?.getD 0) (hxl : x < 4294967296) (x' : Nat) : BitsRel n (i + 1) 0 x' x' xs w v wr := by
  obtain ⟨bs, h1, h2, h3, h4, h5⟩ := h
  refine ⟨bs, h1, by omega, ?_, by simp, h5⟩
  rw [h3, val_take_succ hi, ← hx, Nat.mod_eq_of_lt (show x < 2 ^ 32 from hxl), show (4294967296 : Nat) = 2 ^ 32 from by decide, ← Nat.pow_mul, Nat.pow_zero, Nat.mod_one, Nat.mul_zero]
  rfl

set_option maxRecDepth 100000 in
set_option maxHeartbeats 1600000 in
theorem bits_any (A : Option Addr) (c : Nat) (xs : List Nat) (w : World) (h : Us w A c xs) (hl : xs.length ≤ 1000000) :
    Calls Try.prog 61 #[.slice A xs.length c] w (RetB (val xs) w) := by
  obtain ⟨i0, hi, hz0, hz1, hz2⟩ := info_parts Try.infoB
  obtain ⟨n, hn⟩ : ∃ n, n = xs.length := ⟨_, rfl⟩
  rw [← hn] at hl ⊢
  have HN := Lib.hid hn
  have HH := Lib.hid h
  have HI := Lib.hid (And.intro hi (And.intro hz0 (And.intro hz1 hz2)))
  clear h hi hz0 hz1 hz2 hn
  go_enter Try.func61, Try.ntmps61
  go_wp2
  go_loopw [3, 4, 5, 6] (fun v iv _ _ wr => ∃ i : Nat, i ≤ n ∧ iv = .int .i64 i ∧ BitsRel n i 0 0 0 xs w v wr) (fun _ iv _ _ _ => n - (intOf iv).toNat)
  case atStart => exact ⟨0, Nat.zero_le _, rfl, [], OutB.nil _ _, rfl, rfl, rfl, Below.refl _ _⟩
  case round =>
    obtain ⟨i, hi, rfl, R⟩ := hrel
    have HR := Lib.hid R
    clear R
    by_cases hlt : i < n
    · obtain ⟨b, off, rfl, hb, hc⟩ := HH.out.at_ (by rw [← HN.out]; omega)
      have hbw : Below w.heap.size w wr := by obtain ⟨_, _, _, _, _, h⟩ := HR.out; exact h
      have ex := (hbw.cell (p := ⟨b, off + i, none⟩) hb).trans (hc i (by rw [← HN.out]; exact hlt))
      obtain ⟨x, hx⟩ : ∃ x, x = xs[i]?.getD 0 := ⟨_, rfl⟩
      rw [← hx] at ex
      have hxl : x < 4294967296 := by rw [hx]; exact HH.out.1.getD i
      have HX := Lib.hid hx
      clear hc hx hbw
      obtain ⟨wo, rfl⟩ : ∃ wo : World, wo = wr := ⟨_, rfl⟩
      go_wp2
      go_loopw [3, 5, 6] (fun v yv jv wr => ∃ j y : Nat, j ≤ 32 ∧ jv = .int .i64 j ∧ yv = .int .u32 y ∧ y < 4294967296 ∧ BitsRel n i j x y xs w v wr) (fun _ _ jv _ => 32 - (intOf jv).toNat)
      case atStart =>
        refine ⟨0, x, by omega, rfl, rfl, hxl, ?_⟩
        obtain ⟨bs, h1, h2, h3, h4, h5⟩ := HR.out
        exact ⟨bs, h1, h2, by rw [h3, Nat.pow_zero, Nat.mod_one, Nat.mod_one], by simp, h5⟩
      case round =>
        obtain ⟨j, y, hj, rfl, rfl, hy, bs, h1, h2, h3, h4, h5⟩ := hrel
        by_cases hj32 : j < 32
        · obtain ⟨bt, hbt⟩ : ∃ bt, bt = (y % 2 == 1) := ⟨_, rfl⟩
          have hbi : ((y : Int) % 2 == 1) = bt := by
            rw [hbt]
            rcases Nat.mod_two_eq_zero_or_one y with h | h
            · rw [h, show (y : Int) % 2 = 0 from by omega]; rfl
            · rw [h, show (y : Int) % 2 = 1 from by omega]; rfl
          have HO := Lib.hid h1
          have H2 := Lib.hid h2
          have H3 := Lib.hid h3
          have H4 := Lib.hid h4
          have H5 := Lib.hid h5
          have HBT := Lib.hid hbt
          have hb32 : bs.length ≤ 32000064 := by omega
          clear h1 h2 h3 h4 h5 hbt
          go_wp2_with (at_builtin; refine wpList_append_own_at _ rfl _ _ 59 rfl w.heap.size 4 i0 (.bool false) 1 1 Try.underlying59 HI.out.1 HI.out.2.1 HI.out.2.2.1 HI.out.2.2.2 rfl (by decide) _ _ _ rfl (HO.out.alloc _) ⟨_, 0, none⟩ 1 1 [.bool bt] rfl rfl (cell_one_new _ _ _) (by simp [Value.oneCell']) (by simp only [maxLen]; omega) (by omega) (by have := H5.out.size; simp; omega) ?_; intro v2 w2 own2 grow2 _ at2)
          go_roundw
          case rel => exact ⟨j + 1, y / 2, by omega, by go_num, by go_num, by omega, BitsRel.next HO.out H2.out H3.out H4.out H5.out HBT.out own2 grow2⟩
          case measure => simp [intOf] <;> omega
        · obtain rfl : j = 32 := by omega
          have RT := Lib.hid (BitsRel.turn (n := n) ⟨bs, h1, h2, h3, h4, h5⟩ (by rw [← HN.out]; exact hlt) HX.out hxl 0)
          clear h1 h2 h3 h4 h5
          go_wp2
          go_roundw
          case rel => exact ⟨i + 1, by omega, by go_num, RT.out⟩
          case measure => simp [intOf] <;> omega
    · obtain rfl : i = n := by omega
      obtain ⟨bs, h1, h2, h3, h4, h5⟩ := HR.out
      obtain ⟨A1, c1, hv⟩ := h1.shape
      subst hv
      have HO := Lib.hid h1
      have H3 := Lib.hid h3
      have H5 := Lib.hid h5
      have hbl : bs.length ≤ 100000000 := by omega
      clear h1 h2 h3 h4 h5 HR
      go_wp2_with (go_at_call 76; refine (cut_any A1 c1 bs _ (HO.out.reads rfl) hbl).mono ?_; rintro e w3 ⟨q, hq, rfl, k3, v3, b3⟩)
      go_ret
      refine ⟨A1, c1, bs.take q, by rw [List.length_take, Nat.min_eq_left hq]; rfl, ((HO.out.below b3).reads rfl).take hq, k3, ?_, H5.out.trans (b3.mono H5.out.size)⟩
      rw [v3, H3.out, Nat.pow_zero, Nat.mod_one, Nat.mul_zero, Nat.add_zero, take_all HN.out.symm]

end Go.Proofs.Ythkeehfoefjnfaa
