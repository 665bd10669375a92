/-
  dec.limbs: the number of digits.
-/
import Derived.Test.YteekijmhghokkaaDoorDecRText
import Derived.Test.YteekijmhghokkaaDoorLimbC

namespace Go.Proofs.YteekijmhghokkaaDoor
set_option linter.unusedVariables false
set_option linter.unusedSimpArgs false
open Go.RowKit Num Digs
theorem grown_iterAt {w : World} {k : Nat} {s : ByteArray} {pos : Nat} : w.grownBy (w.iterAt k s pos) (some k) :=
  ⟨rfl, rfl, rfl, by rw [Lib.iterAt_size]; exact Nat.le_refl _, fun i _ hne => Lib.iterAt_other w k i s pos (fun e => hne (by rw [e]))⟩
theorem Us.iterAt {w : World} {A : Option Addr} {c : Nat} {xs : List Nat} {k : Nat} {s : ByteArray} {pos : Nat} (h : Us w A c xs) (hk : w.heap[k]? = some (.stringIter s pos)) (pos' : Nat) : Us (w.iterAt k s pos') A c xs :=
  h.keptG grown_iterAt (fun r e => by cases e; exact ⟨_, hk, rfl⟩)
/-- So far: the limbs, and what stands beside them. -/
def LimbsRel (s : ByteArray) (w : World) (pos j p : Nat) (A : Option Addr) (c : Nat) (ys : List Nat) (wr : World) : Prop :=
  pos ≤ s.size ∧ j ≤ 8 ∧ num (s.data.toList.take pos) = val ys * 10 ^ j + p ∧ p < 10 ^ j ∧ ys.length ≤ pos ∧ Us wr A c ys ∧ wr.heap[w.heap.size]? = some (.stringIter s pos) ∧ Below w.heap.size w wr
theorem num_take {s : ByteArray} {pos d : Nat} (h : pos < s.size) (hd : d < 10) (hg : s.data.toList[pos]? = some (dig d)) : num (s.data.toList.take (pos + 1)) = num (s.data.toList.take pos) * 10 + d := by
  rw [List.take_add_one, hg]
  simp only [Option.toList]
  rw [num_snoc, dig_nat hd]
  omega
theorem LimbsRel.next {s : ByteArray} {w wr : World} {pos j p c d : Nat} {A : Option Addr} {ys : List Nat} (h : LimbsRel s w pos j p A c ys wr) (hlt : pos < s.size) (hd : d < 10) (hg : s.data.toList[pos]? = some (dig d)) (hj : j < 8) :
    LimbsRel s w (pos + 1) (j + 1) (p * 10 + d) A c ys (wr.iterAt w.heap.size s (pos + 1)) := by
  obtain ⟨h1, h2, h3, h4, h5, h6, h7, h8⟩ := h
  refine ⟨by omega, by omega, ?_, by rw [Nat.pow_succ]; omega, by omega, h6.iterAt h7 _, Lib.iterAt_heap _ _ _ _ _ h7, Lib.below_iterAt h8 (Nat.le_refl _) _ _⟩
  rw [num_take hlt hd hg, h3, Nat.pow_succ, Nat.add_mul, Nat.mul_assoc]
  omega
theorem LimbsRel.full {s : ByteArray} {w wr w1 : World} {pos p c c1 d : Nat} {A A1 : Option Addr} {ys rs : List Nat} (h : LimbsRel s w pos 8 p A c ys wr) (hlt : pos < s.size) (hd : d < 10) (hg : s.data.toList[pos]? = some (dig d)) (hall : ∀ b ∈ s.data.toList, isd b = true)
    (q : Us w1 A1 c1 rs) (hk : Canon rs) (hv : val rs = val ys * 1000000000 + (p * 10 + d)) (b : Below (wr.iterAt w.heap.size s (pos + 1)).heap.size (wr.iterAt w.heap.size s (pos + 1)) w1) :
    LimbsRel s w (pos + 1) 0 0 A1 c1 rs w1 := by
  obtain ⟨h1, h2, h3, h4, h5, h6, h7, h8⟩ := h
  have hn : num (s.data.toList.take (pos + 1)) = val rs := by
    rw [num_take hlt hd hg, h3, hv]
    omega
  have hb := Lib.below_iterAt h8 (Nat.le_refl w.heap.size) s (pos + 1)
  have hz : w.heap.size < (wr.iterAt w.heap.size s (pos + 1)).heap.size := by
    rw [Lib.iterAt_size]
    exact (Array.getElem?_eq_some_iff.1 h7).1
  refine ⟨by omega, by omega, by rw [hn]; omega, by decide, ?_, q, (b.block _ hz).trans (Lib.iterAt_heap _ _ _ _ _ h7), hb.trans (b.mono hb.size)⟩
  refine len_le hk ?_
  rw [← hn]
  have hl := num_lt (s.data.toList.take (pos + 1)) (fun x hx => hall x (List.mem_of_mem_take hx))
  have hlen : (s.data.toList.take (pos + 1)).length = pos + 1 := by rw [List.length_take, ba_len]; omega
  rw [hlen] at hl
  exact Nat.lt_of_lt_of_le hl (Nat.pow_le_pow_left (by decide) _)
set_option maxRecDepth 100000 in
set_option maxHeartbeats 3200000 in
theorem limbs_any (s : ByteArray) (w : World) (hall : ∀ b ∈ s.data.toList, isd b = true) (hs : s.size ≤ 100000) :
    Calls Tryd.prog 24 #[.string s] w (RetU (num s.data.toList) w) := by
  have HA := Lib.hid hall
  clear hall
  obtain ⟨N, hN⟩ : ∃ N, N = num s.data.toList := ⟨_, rfl⟩
  rw [← hN]
  have HN := Lib.hid hN
  clear hN
  go_enter Tryd.func24, Tryd.ntmps24
  go_wp2
  go_loopg [3, 4, 5] s.size (fun g av pv zv wr => ∃ (pos j p z : Nat) (A : Option Addr) (c : Nat) (ys : List Nat), pos + g = s.size ∧ z = 10 ^ j ∧ av = .slice A ys.length c ∧ pv = .int .u32 (p : Int) ∧ zv = .int .u32 (z : Int) ∧ LimbsRel s w pos j p A c ys wr)
  case atStart => exact ⟨0, 0, 0, 1, none, 0, [], by omega, rfl, rfl, rfl, rfl, Nat.zero_le _, by omega, by simp [num, val], by decide, Nat.zero_le _, Us.nil _, World.iter_heap w s 0, (Below.refl _ w).alloc (Nat.le_refl _) _⟩
  case round =>
    obtain ⟨pos, j, p, z, A, c, ys, hg, hz, rfl, rfl, rfl, hR⟩ := hrel
    have R := Lib.hid hR
    have hit := hR.2.2.2.2.2.2.1
    have hyl := hR.2.2.2.2.1
    have hps := hR.1
    have hcap := hR.2.2.2.2.2.1.cap
    have hpl : p < z := by rw [hz]; exact hR.2.2.2.1
    have hj := hR.2.1
    have hzl : z ≤ 100000000 := by rw [hz]; exact Nat.pow_le_pow_right (n := 10) (by decide) hj
    have HZ := Lib.hid hz
    have HIT := Lib.hid hit
    clear hR hz hit
    by_cases hlt : pos < s.size
    · obtain ⟨d, hd, hb⟩ := isd_iff.1 (HA.out _ (List.mem_of_getElem? (ba_get hlt)))
      have HG := Lib.hid (show s.data.toList[pos]? = some (dig d) by rw [ba_get hlt, hb])
      have hnx : ∀ ty, (Instr.next (.pointer (some ⟨w.heap.size, 0, none⟩)) true ty).run Tryd.prog wr = .ok (.tuple #[.bool true, .int .i64 pos, .int .i32 (48 + (d : Int))]) (wr.iterAt w.heap.size s (pos + 1)) := fun ty => by
        have e := Lib.run_next_ascii_at (P := Tryd.prog) wr w.heap.size s pos ty HIT.out hlt (by rw [hb, dig_nat hd]; omega)
        rw [hb, dig_nat hd] at e
        rw [e]
        simp
      clear hb
      by_cases hj8 : j = 8
      · subst hj8
        have hz8 : z = 100000000 := HZ.out
        subst hz8
        have hiu := Lib.hid (R.out.2.2.2.2.2.1.iterAt HIT.out (pos + 1))
        have hp2 := Lib.hid (show (p : Int) * 10 + (48 + (d : Int) - 48) = ((p * 10 + d : Nat) : Int) by omega)
        go_wp2_with (go_at_call 35; rw [hp2.out]; go_loud (refine (mul_any _ _ ys 1000000000 (p * 10 + d) _ hiu.out (by omega) (by omega) (by omega)).mono ?_; rintro e w1 ⟨A1, c1, r1, rfl, q, k1, v1, b1⟩; have RN := Lib.hid (R.out.full hlt hd HG.out HA.out q k1 v1 b1); clear q k1 v1 b1))
        obtain ⟨g', rfl⟩ : ∃ g', gk = g' + 1 := ⟨gk - 1, by omega⟩
        go_roundg g'
        case measure => omega
        case rel => exact ⟨pos + 1, 0, 0, 1, A1, c1, r1, by omega, rfl, rfl, rfl, rfl, RN.out⟩
      · have hz7 : z ≤ 10000000 := by rw [HZ.out]; exact Nat.pow_le_pow_right (n := 10) (by decide) (show j ≤ 7 by omega)
        have RN := Lib.hid (R.out.next hlt hd HG.out (by omega))
        have HZ2 := Lib.hid (show z * 10 = 10 ^ (j + 1) by rw [HZ.out, Nat.pow_succ])
        go_wp2_with fail
        obtain ⟨g', rfl⟩ : ∃ g', gk = g' + 1 := ⟨gk - 1, by omega⟩
        go_roundg g'
        case measure => omega
        case rel => exact ⟨pos + 1, j + 1, p * 10 + d, z * 10, A, c, ys, by omega, HZ2.out, rfl, by go_num, by go_num, RN.out⟩
    · have hnx : ∀ ty, (Instr.next (.pointer (some ⟨w.heap.size, 0, none⟩)) true ty).run Tryd.prog wr = _ := fun ty => Lib.run_next_end_at wr w.heap.size s pos ty HIT.out hlt
      have hpe : pos = s.size := by omega
      have hnum : num s.data.toList = val ys * z + p := by
        have := R.out.2.2.1
        rw [List.take_of_length_le (by rw [ba_len]; omega)] at this
        rw [this, HZ.out]
      have HNU := Lib.hid hnum
      clear hnum
      go_wp2_with (go_at_call 35; go_loud (refine (mul_any _ _ ys z p _ R.out.2.2.2.2.2.1 (by omega) (by omega) (by omega)).mono ?_; rintro e w1 ⟨A1, c1, r1, rfl, q, k1, v1, b1⟩; have Q := Lib.hid (And.intro q (And.intro k1 (And.intro v1 b1))); clear q k1 v1 b1))
      go_ret
      have hb := R.out.2.2.2.2.2.2.2
      exact ⟨A1, c1, r1, rfl, Q.out.1, Q.out.2.1, by rw [Q.out.2.2.1, HN.out, HNU.out], hb.trans (Q.out.2.2.2.mono hb.size)⟩
end Go.Proofs.YteekijmhghokkaaDoor
