/-
  The reference's Div.
-/
import Derived.Test.YthkeehfoefjnfaaRMul
import Derived.Test.YthkeehfoefjnfaaShr
import Derived.RegionTactic
import Derived.BigRegion
namespace Go.Proofs.Ythkeehfoefjnfaa
set_option linter.unusedVariables false
set_option linter.unusedSimpArgs false
open Go.RowKit Num

/-- The places from i on are done. -/
def RDivRel (n m : Nat) (xs : List Nat) (w : World) (g i rr : Nat) (rs : List Nat) (wr : World) : Prop :=
  rr < m ∧ OwnU wr w.heap.size g n rs ∧ val (rs.drop i) * m + rr = val (xs.drop i) ∧ Below w.heap.size w wr
theorem RDivRel.next {n m g i rr : Nat} {xs rs : List Nat} {w wr : World} (R : RDivRel n m xs w g (i + 1) rr rs wr) (hn : xs.length = n) (hi : i < n) (hm : m < 4294967296) (hd : Dig xs) {x : Nat} (hx : x = xs[i]?.getD 0) :
    RDivRel n m xs w g i (divR rr x m) (rs.set i (divQ rr x m)) ((wr.setCell ⟨g, i, none⟩ (.int .u32 ((divQ rr x m : Nat) : Int)))) := by
  obtain ⟨h1, h2, h3, h4⟩ := R
  have hl := h2.2.1
  have hxl : x < 4294967296 := by rw [hx]; exact hd.getD i
  refine ⟨divR_lt h1, h2.set i (divQ_lt h1 hxl), ?_, h4.setCell (p := ⟨g, i, none⟩) h2.base _⟩
  rw [val_drop_set _ (by omega), val_drop (by omega : i < xs.length), ← hx, ← h3]
  have := div_eq rr x m
  generalize divQ rr x m = q at *
  generalize divR rr x m = r at *
  rw [Nat.add_mul, Nat.mul_assoc]
  omega

theorem rdiv_q {h l m : Nat} (hh : h < m) (hl : l < 4294967296) : ((h : Int) * 4294967296 + (l : Int)) / (m : Int) % 4294967296 = ((divQ h l m : Nat) : Int) := by
  have hq := divQ_lt hh hl
  have e : ((h : Int) * 4294967296 + (l : Int)) / (m : Int) = ((divQ h l m : Nat) : Int) := by
    unfold divQ
    rw [Int.natCast_ediv]
    congr 1
    omega
  rw [e]
  omega
theorem rdiv_r {h l m : Nat} : ((h : Int) * 4294967296 + (l : Int)) % (m : Int) = ((divR h l m : Nat) : Int) := by
  unfold divR
  rw [Int.natCast_emod]
  congr 1
  omega
theorem RDivRel.drew {n m g i rr : Nat} {xs rs : List Nat} {w wr : World} (R : RDivRel n m xs w g i rr rs wr) : RDivRel n m xs w g i rr rs wr.drew := ⟨R.1, R.2.1.drew, R.2.2.1, below_drewN R.2.2.2 1⟩
theorem RDivRel.last {n m g rr : Nat} {xs rs : List Nat} {w wr : World} (R : RDivRel n m xs w g 0 rr rs wr) (hm : 0 < m) : val rs = val xs / m ∧ rr = val xs % m := by
  obtain ⟨h1, _, h3, _⟩ := R
  rw [List.drop_zero, List.drop_zero] at h3
  have := Nat.div_mod_unique hm (a := val xs) (c := rr) (d := val rs)
  have h := this.2 ⟨by rw [Nat.mul_comm]; omega, h1⟩
  exact ⟨h.1.symm, h.2.symm⟩

set_option maxRecDepth 100000 in
set_option maxHeartbeats 1600000 in
theorem rdiv_yes (A : Option Addr) (c : Nat) (xs : List Nat) (m : Nat) (w : World) (h : Us w A c xs) (hl : xs.length ≤ 1000000) (hm : 0 < m) (hmm : m < 4294967296) :
    Calls Try.prog 31 #[.slice A xs.length c, .int .u32 (m : Int)] w (RetD (val xs / m) (val xs % m) w) := by
  obtain ⟨i0, hi, hz0, hz1, hz2⟩ := info_parts Try.infoU
  obtain ⟨n, hn⟩ : ∃ n, n = xs.length := ⟨_, rfl⟩
  rw [← hn] at hl ⊢
  have HN := Lib.hid hn
  have HH := Lib.hid h
  have HI := Lib.hid (And.intro hi (And.intro hz0 (And.intro hz1 hz2)))
  have m0 : ((m : Int) == 0) = false := by rw [beq_eq_false_iff_ne]; omega
  have m1 : (1 : Int) ≤ (m : Int) := by omega
  clear h hi hz0 hz1 hz2 hn
  go_enter Try.func31, Try.ntmps31
  go_wp2_with (first
    | (at_make; refine wpList_make_full _ rfl _ _ 22 rfl w.heap.size 35 i0 _ 1 Try.underlying22 HI.out.1 HI.out.2.1 HI.out.2.2.1 .i64 .i64 _ _ n rfl rfl (by omega) (by omega) (by rw [HI.out.2.2.2]; omega) (by unfold maxLen; omega) (Nat.le_refl _) ?_; intro w0 hown0 hgrow0))
  have own0 := OwnU.made hown0
  have hb0 : Below w.heap.size w w0 := (Below.refl _ _).grown hgrow0 (Nat.le_refl _) (fun k hk => by cases hk)
  have R0 := Lib.hid (show RDivRel n m xs w w.heap.size n 0 (List.replicate n 0) w0 from ⟨hm, own0, by rw [List.drop_eq_nil_of_le (by simp), List.drop_eq_nil_of_le (by rw [← HN.out]; exact Nat.le_refl _)]; simp [val], hb0⟩)
  clear hown0 hgrow0 own0 hb0
  generalize w.heap.size = g at R0 ⊢
  go_loopw [7, 8, 9] (fun cv iv _ wr => ∃ (i rr : Nat) (t : Int) (rs : List Nat), i ≤ n ∧ t = (i : Int) - 1 ∧ iv = .int .i64 t ∧ cv = .int .u64 rr ∧ RDivRel n m xs w g i rr rs wr) (fun _ iv _ _ => (intOf iv + 1).toNat)
  case atStart => exact ⟨n, 0, _, _, Nat.le_refl _, rfl, rfl, rfl, R0.out⟩
  case round =>
    obtain ⟨i, rr, t, rs, hi, ht, rfl, rfl, R⟩ := hrel
    have hrr := R.1
    by_cases h0 : 0 < i
    · obtain ⟨q, rfl⟩ : ∃ q, i = q + 1 := ⟨i - 1, by omega⟩
      obtain rfl : t = (q : Int) := by omega
      obtain ⟨b, off, rfl, hb, hc⟩ := HH.out.at_ (by rw [← HN.out]; omega)
      have ex := (R.2.2.2.cell (p := ⟨b, off + q, none⟩) hb).trans (hc q (by rw [← HN.out]; omega))
      obtain ⟨x, hx⟩ : ∃ x, x = xs[q]?.getD 0 := ⟨_, rfl⟩
      rw [← hx] at ex
      have hxl : x < 4294967296 := by rw [hx]; exact HH.out.1.getD q
      have ec := R.2.1.cell (k := q) (by omega)
      have fc := R.2.1.free q
      have RR := Lib.hid (R.next HN.out.symm (by omega) hmm HH.out.1 hx)
      have hqn : (q : Int) < (n : Int) := by omega
      obtain ⟨z, hz⟩ : ∃ z : Nat, z = rr * 4294967296 + x := ⟨_, rfl⟩
      clear hc hx R ht
      go_wp2
      go_region
      all_goals go_wp2
      go_roundw
      case rel =>
        refine ⟨q, divR rr x m, (q : Int) - 1, rs.set q (divQ rr x m), by omega, rfl, rfl, by rw [rdiv_r], ?_⟩
        rw [rdiv_q hrr hxl]
        exact RR.out.drew
      case measure => simp [intOf] <;> omega
    · obtain rfl : i = 0 := by omega
      obtain rfl : t = -1 := by omega
      have F := Lib.hid (R.last hm)
      have RD := Lib.hid R.2.1.reads
      have HL := Lib.hid R.2.1.2.1
      have HB := Lib.hid R.2.2.2
      clear R ht hi h0
      go_wp2_with (go_at_call 29; refine (rnorm_of RD.out HL.out hl).mono ?_; rintro e w4 ⟨A4, c4, r4, rfl, q4, k4, v4, b4⟩)
      go_ret2
      refine ⟨A4, c4, r4, ?_, q4, k4, v4.trans F.out.1, HB.out.trans (b4.mono HB.out.size)⟩
      rw [← F.out.2]
      rfl

theorem rdiv_zero (A : Option Addr) (c n : Nat) (w : World) :
    Calls Try.prog 31 #[.slice A n c, .int .u32 0] w (RetD 0 0 w) := by
  go_enter Try.func31, Try.ntmps31
  go_wp2
  go_ret2
  exact ⟨none, 0, [], rfl, Us.nil _, canon_nil, rfl, Below.refl _ _⟩

end Go.Proofs.Ythkeehfoefjnfaa
