/-
  The reference's Of, Norm, Len, Bit, Shr, Shl: limbs of bits.
-/
import Derived.Test.YthkeehfoefjnfaaRBits
import Derived.Test.YthkeehfoefjnfaaBits
import Derived.Deep.DeepCutAuto
namespace Go.Proofs.Ythkeehfoefjnfaa
set_option linter.unusedVariables false
set_option linter.unusedSimpArgs false
open Go.RowKit Num

/-- Limbs that the call appends, one by one. -/
def OutU (w : World) (base : Nat) (v : Value) (rs : List Nat) : Prop := Dig rs ∧ w.ownsRow base 35 1 v rs.length (rs.map u32v)
theorem OutU.nil (w : World) (base : Nat) : OutU w base (.slice none 0 0) [] := ⟨Dig.nil, World.ownsRow_nil _ _ _ _⟩
theorem OutU.shape {w : World} {base : Nat} {v : Value} {rs : List Nat} (h : OutU w base v rs) : ∃ A c, v = .slice A rs.length c := own_shape h.2
theorem OutU.reads {w : World} {base : Nat} {A : Option Addr} {n c : Nat} {rs : List Nat} (h : OutU w base (.slice A n c) rs) (hn : n = rs.length) : Us w A c rs := by
  subst hn
  exact ⟨h.1, Rd.own h.2⟩
theorem OutU.below {w w' : World} {base : Nat} {v : Value} {rs : List Nat} (h : OutU w base v rs) (hb : Below w.heap.size w w') : OutU w' base v rs := ⟨h.1, ownsRow_below h.2 hb⟩
theorem OutU.snoc {w w0 w1 : World} {base : Nat} {v v' : Value} {rs : List Nat} {u : Nat} {o : Obj} (h : OutU w base v rs) (hu : u < 4294967296) (hb : Below base w0 w) (h0 : base ≤ w0.heap.size)
    (hown : w1.ownsRow base 35 1 v' (rs.length + 1) (rs.map u32v ++ [.int .u32 (u : Int)])) (hg : (w.alloc o).grownBy w1 v.ownBlock) :
    OutU w1 base v' (rs ++ [u]) ∧ Below base w0 w1 := by
  refine ⟨⟨h.1.append (Dig.cons hu Dig.nil), ?_⟩, ?_⟩
  · rw [List.length_append, List.map_append]
    exact hown
  · have hs := hb.size
    refine (hb.alloc (Nat.le_trans h0 hs) o).grown hg (by simp; omega) (fun k hk => ?_)
    rcases h.2.2 with ⟨rfl, _⟩ | ⟨g, cap, cur, rfl, h2, _⟩
    · cases hk
    · cases hk
      exact h2

/-- The limb of the bits from place i on. -/
def limbAt (bs : List Bool) (i : Nat) : Nat := bval ((bs.drop i).take 32)
theorem limbAt_lt (bs : List Bool) (i : Nat) : limbAt bs i < 4294967296 := by
  refine Nat.lt_of_lt_of_le (bval_lt _) ?_
  rw [show (4294967296 : Nat) = 2 ^ 32 from by decide]
  exact Nat.pow_le_pow_right (by decide) (by rw [List.length_take]; omega)
theorem limbAt_part {bs : List Bool} {i j : Nat} (hj : j < 32) (hij : i + j < bs.length) : bval ((bs.drop i).take (j + 1)) = bval ((bs.drop i).take j) + 2 ^ j * (bs[i + j]?.getD false).toNat := by
  rw [bval_take_succ (by rw [List.length_drop]; omega), List.getElem?_drop]

def OfRel (i : Nat) (bs : List Bool) (w : World) (v : Value) (wr : World) : Prop :=
  ∃ q rs, i = 32 * q ∧ OutU wr w.heap.size v rs ∧ rs.length = q ∧ val rs = bval (bs.take i) ∧ (i < bs.length + 32) ∧ (bs.length ≤ i → CanonB bs → Canon rs) ∧ Below w.heap.size w wr
theorem OfRel.start (bs : List Bool) (w : World) (wr : World) (hb : Below w.heap.size w wr) : OfRel 0 bs w (.slice none 0 0) wr :=
  ⟨0, [], rfl, OutU.nil _ _, rfl, rfl, by omega, fun _ _ => canon_nil, hb⟩
theorem OfRel.next {i : Nat} {bs : List Bool} {w wr w1 : World} {v v' : Value} {q : Nat} {rs : List Nat} {o : Obj} (h0 : i = 32 * q) (h1 : OutU wr w.heap.size v rs) (h2 : rs.length = q) (h3 : val rs = bval (bs.take i)) (h4 : Below w.heap.size w wr) (hi : i < bs.length)
    {u : Nat} (hu : u = limbAt bs i) (hown : w1.ownsRow w.heap.size 35 1 v' (rs.length + 1) (rs.map u32v ++ [.int .u32 (u : Int)])) (hg : (wr.alloc o).grownBy w1 v.ownBlock) : OfRel (i + 32) bs w v' w1 := by
  obtain ⟨k1, k2⟩ := h1.snoc (by rw [hu]; exact limbAt_lt _ _) h4 (Nat.le_refl _) hown hg
  have hs := bval_split (bs.take (i + 32)) i (by rw [List.length_take]; omega)
  rw [List.take_take, Nat.min_eq_left (by omega), List.drop_take, Nat.add_sub_cancel_left] at hs
  refine ⟨q + 1, _, by omega, k1, by rw [List.length_append, h2]; rfl, ?_, by omega, fun hle hc => ?_, k2⟩
  · rw [val_append, h3, h2, hs, show (4294967296 : Nat) = 2 ^ 32 from by decide, ← Nat.pow_mul, ← h0, hu]
    simp [val, limbAt]
  · have hlast : bs.length - 1 < bs.length := by omega
    have : u ≠ 0 := by
      rw [hu]
      intro e
      unfold limbAt at e
      rw [List.take_of_length_le (by rw [List.length_drop]; omega)] at e
      have hcd : CanonB (bs.drop i) := by
        unfold CanonB at hc ⊢
        rwa [List.getLast?_drop, if_neg (by omega)]
      have := canonB_zero hcd e
      rw [List.drop_eq_nil_iff] at this
      omega
    simpa [Canon] using this

/-- Within a limb: x is the bits from i to k, p the next one's power. -/
def OfIn (ds : List Bool) (i k x p : Nat) : Prop := x = bval ((ds.drop i).take (k - i)) ∧ p = 2 ^ (k - i) % 4294967296
theorem OfIn.start (ds : List Bool) (i : Nat) : OfIn ds i i 0 1 := by simp [OfIn, bval]
theorem OfIn.bound {ds : List Bool} {i k x p : Nat} (h : OfIn ds i k x p) (h1 : i ≤ k) (h2 : k < i + 32) : x < p ∧ p ≤ 2147483648 := by
  obtain ⟨rfl, rfl⟩ := h
  have h3 : 2 ^ (k - i) ≤ 2 ^ 31 := Nat.pow_le_pow_right (by decide) (by omega)
  have h4 := bval_lt ((ds.drop i).take (k - i))
  have h5 : 2 ^ ((ds.drop i).take (k - i)).length ≤ 2 ^ (k - i) := Nat.pow_le_pow_right (by decide) (by rw [List.length_take]; omega)
  rw [Nat.mod_eq_of_lt (by omega)]
  omega
theorem OfIn.next {ds : List Bool} {i k x p : Nat} (h : OfIn ds i k x p) (h1 : i ≤ k) (h2 : k < i + 32) (h3 : k < ds.length) {b : Bool} (hb : b = ds[k]?.getD false) : OfIn ds i (k + 1) (if b then x + p else x) (p * 2 % 4294967296) := by
  obtain ⟨rfl, rfl⟩ := h
  have h4 : 2 ^ (k - i) ≤ 2 ^ 31 := Nat.pow_le_pow_right (by decide) (by omega)
  have e : k + 1 - i = k - i + 1 := by omega
  refine ⟨?_, ?_⟩
  · rw [e, limbAt_part (by omega) (by omega), show i + (k - i) = k from by omega, ← hb, Nat.mod_eq_of_lt (by omega)]
    cases b <;> simp
  · rw [e, Nat.pow_succ]
    omega
theorem OfIn.last {ds : List Bool} {i k x p : Nat} (h : OfIn ds i k x p) (h1 : i ≤ k) (h2 : k ≤ i + 32) (h3 : k ≤ ds.length) (h4 : ¬ (k < ds.length ∧ k < i + 32)) : x = limbAt ds i := by
  obtain ⟨rfl, _⟩ := h
  unfold limbAt
  by_cases h5 : k = i + 32
  · subst h5
    rw [Nat.add_sub_cancel_left]
  · rw [List.take_of_length_le (by rw [List.length_drop]; omega), List.take_of_length_le (by rw [List.length_drop]; omega)]

set_option maxRecDepth 100000 in
set_option maxHeartbeats 3200000 in
theorem of_any (A : Option Addr) (c : Nat) (bs : List Bool) (w : World) (h : Bl w A c bs) (hl : bs.length ≤ 100000000) :
    Calls Try.prog 63 #[.slice A bs.length c] w (RetU (bval bs) w) := by
  obtain ⟨i0, hi, hz0, hz1, hz2⟩ := info_parts Try.infoU
  have HH := Lib.hid h
  have HI := Lib.hid (And.intro hi (And.intro hz0 (And.intro hz1 hz2)))
  clear h hi hz0 hz1 hz2
  obtain ⟨s, hs⟩ : ∃ s, s = bval bs := ⟨_, rfl⟩
  rw [← hs]
  have HS := Lib.hid hs
  clear hs
  go_enter Try.func63, Try.ntmps63
  go_wp2_with (go_at_call 76; refine (cut_any A c bs _ HH.out hl).mono ?_; rintro e w0 ⟨n, hn, rfl, hcan, hval, hb0⟩)
  obtain ⟨ds, hds⟩ : ∃ ds, ds = bs.take n := ⟨_, rfl⟩
  have hdl : n = ds.length := by rw [hds, List.length_take, Nat.min_eq_left hn]
  have hD : Bl w0 A c ds := by rw [hds]; exact (HH.out.below hb0).take hn
  rw [← hds] at hcan hval
  have hnl : n ≤ 100000000 := by omega
  have HD := Lib.hid hD
  have HDL := Lib.hid hdl
  have HC := Lib.hid (And.intro hcan hval)
  have HB0 := Lib.hid hb0
  clear hds hdl hD hcan hval hb0 hn hl HH
  go_loopw [3, 4, 5, 6, 7] (fun v iv _ _ _ wr => ∃ i : Nat, i < n + 32 ∧ iv = .int .i64 i ∧ OfRel i ds w0 v wr) (fun _ iv _ _ _ _ => n - (intOf iv).toNat)
  case atStart => exact ⟨0, by omega, rfl, OfRel.start _ _ _ (Below.refl _ _)⟩
  case round =>
    obtain ⟨i, hi, rfl, R⟩ := hrel
    have HR := Lib.hid R
    clear R
    by_cases hlt : i < n
    · obtain ⟨wo, rfl⟩ : ∃ wo : World, wo = wr := ⟨_, rfl⟩
      go_wp2
      go_loopw [5, 6, 7] (fun xv pv kv wr => ∃ k x p : Nat, i ≤ k ∧ k ≤ i + 32 ∧ k ≤ n ∧ kv = .int .i64 (k : Int) ∧ xv = .int .u32 (x : Int) ∧ pv = .int .u32 (p : Int) ∧ OfIn ds i k x p ∧ wr = wo) (fun _ _ kv _ => i + 32 - (intOf kv).toNat)
      case atStart => exact ⟨i, 0, 1, Nat.le_refl _, by omega, by omega, rfl, rfl, rfl, OfIn.start _ _, rfl⟩
      case round =>
        obtain ⟨k, x, p, hk1, hk2, hk3, rfl, rfl, rfl, hin, rfl⟩ := hrel
        by_cases hgo : k < n ∧ k < i + 32
        · obtain ⟨hg1, hg2⟩ := hgo
          obtain ⟨b, off, hA, hb, hc⟩ := HD.out.at_ (by rw [← HDL.out]; omega)
          have hbw : Below w0.heap.size w0 wr := by obtain ⟨_, _, _, _, _, _, _, _, h⟩ := HR.out; exact h
          have ex := (hbw.cell (p := ⟨b, off + k, none⟩) hb).trans (hc k (by rw [← HDL.out]; exact hg1))
          obtain ⟨bt, hbt⟩ : ∃ bt, bt = ds[k]?.getD false := ⟨_, rfl⟩
          rw [← hbt] at ex
          obtain ⟨hx1, hx2⟩ := hin.bound hk1 hg2
          have HN1 := Lib.hid (hin.next hk1 hg2 (by rw [← HDL.out]; exact hg1) hbt)
          clear hc hbt hbw hin
          subst hA
          cases bt
          · go_wp2
            go_roundw
            case rel => exact ⟨k + 1, _, p * 2 % 4294967296, by omega, by omega, by omega, by go_num, rfl, by simp, HN1.out, by first | trivial | rfl⟩
            case measure => simp [intOf] <;> omega
          · go_wp2
            go_roundw
            case rel => exact ⟨k + 1, x + p, p * 2 % 4294967296, by omega, by omega, by omega, by go_num, by simp, by simp, HN1.out, by first | trivial | rfl⟩
            case measure => simp [intOf] <;> omega
        · have hx := hin.last hk1 hk2 (by rw [← HDL.out]; exact hk3) (by rw [← HDL.out]; omega)
          obtain ⟨q, rs, r0, r1, r2, r3, r4, r5, r6⟩ := HR.out
          have HX := Lib.hid hx
          have HO := Lib.hid (And.intro r0 (And.intro r1 (And.intro r2 (And.intro r3 r6))))
          have hrl : rs.length ≤ 100000000 := by omega
          clear hx r0 r1 r2 r3 r4 r5 r6 hin HR
          have hstop : ¬ (k < n ∧ k < i + 32) := hgo
          by_cases hkn : k < n
          · have hki : ¬ k < i + 32 := by omega
            clear hgo hstop
            go_wp2_with (at_builtin; refine wpList_append_own_at _ rfl _ _ 22 rfl w0.heap.size 35 i0 (.int .u32 0) 1 4 Try.underlying22 HI.out.1 HI.out.2.1 HI.out.2.2.1 HI.out.2.2.2 rfl (by decide) _ _ _ rfl (HO.out.2.1.2.alloc _) ⟨_, 0, none⟩ 1 1 [.int .u32 (x : Int)] rfl rfl (cell_one_new _ _ _) (by simp [Value.oneCell']) (by simp only [maxLen]; omega) (by omega) (by have := HO.out.2.2.2.2.size; simp; omega) ?_; intro v2 w2 own2 grow2 _ at2)
            go_roundw
            case rel => exact ⟨i + 32, by omega, by go_num, OfRel.next HO.out.1 HO.out.2.1 HO.out.2.2.1 HO.out.2.2.2.1 HO.out.2.2.2.2 (by rw [← HDL.out]; exact hlt) HX.out own2 grow2⟩
            case measure => simp [intOf] <;> omega
          · clear hgo hstop
            go_wp2_with (at_builtin; refine wpList_append_own_at _ rfl _ _ 22 rfl w0.heap.size 35 i0 (.int .u32 0) 1 4 Try.underlying22 HI.out.1 HI.out.2.1 HI.out.2.2.1 HI.out.2.2.2 rfl (by decide) _ _ _ rfl (HO.out.2.1.2.alloc _) ⟨_, 0, none⟩ 1 1 [.int .u32 (x : Int)] rfl rfl (cell_one_new _ _ _) (by simp [Value.oneCell']) (by simp only [maxLen]; omega) (by omega) (by have := HO.out.2.2.2.2.size; simp; omega) ?_; intro v2 w2 own2 grow2 _ at2)
            go_roundw
            case rel => exact ⟨i + 32, by omega, by go_num, OfRel.next HO.out.1 HO.out.2.1 HO.out.2.2.1 HO.out.2.2.2.1 HO.out.2.2.2.2 (by rw [← HDL.out]; exact hlt) HX.out own2 grow2⟩
            case measure => simp [intOf] <;> omega
    · obtain ⟨q, rs, r0, r1, r2, r3, r4, r5, r6⟩ := HR.out
      obtain ⟨A1, c1, hv⟩ := r1.shape
      subst hv
      have HO := Lib.hid (And.intro r1 (And.intro r3 (And.intro r5 r6)))
      clear r0 r1 r2 r3 r4 r5 r6 HR
      go_wp2
      go_ret
      refine ⟨A1, c1, rs, rfl, HO.out.1.reads rfl, HO.out.2.2.1 (by rw [← HDL.out]; omega) HC.out.1, ?_, HB0.out.trans (HO.out.2.2.2.mono HB0.out.size)⟩
      rw [HO.out.2.1, List.take_of_length_le (by rw [← HDL.out]; omega), HC.out.2, HS.out]

end Go.Proofs.Ythkeehfoefjnfaa
