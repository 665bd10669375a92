/-
  TextNext holds of every input: the walk.
-/
import Derived.Test.YtoijmlombnnfbaaTxtLaws

namespace Go.Proofs.Ytoijmlombnnfbaa
set_option linter.unusedVariables false
set_option linter.unusedSimpArgs false
open Go.RowKit Txt
theorem place_nat (s : ByteArray) (k p q : Nat) (w : World) (hs : s.size ≤ 1000) (hk : k ≤ s.size) (hp : p = (s.data.toList.take k).count 10) (hq : q = tail10 (s.data.toList.take k)) :
    Calls Try.prog 7 #[.string s, .int .i64 (k : Int)] w fun e w' => e = .returned (.tuple #[.int .i64 ((p : Int) + 1), .int .i64 ((q : Int) + 1)]) ∧ w = w' := by
  have h := place_any s k w (by omega) (by omega) (by omega)
  rw [(place_yes (l := s.data.toList) (k := k) (by rw [tx_len]; exact hk)).1, (place_yes (l := s.data.toList) (k := k) (by rw [tx_len]; exact hk)).2, ← hp, ← hq] at h
  exact h
theorem place_next (s : ByteArray) (k : Nat) (x y : Int) (w : World) (hs : s.size ≤ 1000) (hk : k < s.size) (hx : x = (((s.data.toList.take (k + 1)).count 10 : Nat) : Int) + 1) (hy : y = ((tail10 (s.data.toList.take (k + 1)) : Nat) : Int) + 1) :
    Calls Try.prog 7 #[.string s, .int .i64 ((k : Int) + 1)] w fun e w' => e = .returned (.tuple #[.int .i64 x, .int .i64 y]) ∧ w = w' := by
  have h := place_nat s (k + 1) _ _ w hs hk rfl rfl
  rw [← hx, ← hy] at h
  exact h
set_option maxRecDepth 100000 in
set_option maxHeartbeats 3200000 in
theorem textnext_out (s : ByteArray) (n : Nat) (w : World) (h : 1000 < s.size ∨ s.size = 0) :
    Calls Try.prog 4 #[.string s, .int .u16 (n : Int)] w fun e w' => e = .returned (.bool true) ∧ ∃ m, w' = w.drewN m := by
  have q0 : True := trivial
  go_enter Try.func4, Try.ntmps4
  rcases h with h | h
  · go_wp2_with (first
      | (have _t := q0; go_at_call 6; clear _t; go_loud (refine (alive4_any _).mono ?_; rintro e w1 ⟨rfl, m1, rfl⟩; have q1 := q0; clear q0)))
    go_ret
    exact ⟨rfl, qt_of _ _⟩
  · have hz : (((s.size : Nat) : Int) == 0) = true := by simp [h]
    have hs : s.size ≤ 1000 := by omega
    have HZ := Lib.hid h
    clear h
    go_wp2_with (first
      | (have _t := q0; go_at_call 6; clear _t; go_loud (refine (alive4_any _).mono ?_; rintro e w1 ⟨rfl, m1, rfl⟩; have q1 := q0; clear q0)))
    go_ret
    exact ⟨rfl, qt_of _ _⟩
set_option maxRecDepth 100000 in
set_option maxHeartbeats 3200000 in
theorem textnext_in (s : ByteArray) (n : Nat) (w : World) (h0 : 0 < s.size) (hs : s.size ≤ 1000) (hn : n ≤ 65535) :
    Calls Try.prog 4 #[.string s, .int .u16 (n : Int)] w fun e w' => e = .returned (.bool true) ∧ ∃ m, w' = w.drewN m := by
  have q0 : True := trivial
  have hz : (((s.size : Nat) : Int) == 0) = false := beq_eq_false_iff_ne.2 (by omega)
  obtain ⟨i, hi⟩ : ∃ i, i = n % s.size := ⟨_, rfl⟩
  have hi2 : i < s.size := by rw [hi]; exact Nat.mod_lt _ h0
  have hi3 : (n : Int) % (s.size : Int) = (i : Int) := by rw [hi]; rfl
  have hi4 : (n : Int).tmod (s.size : Int) = (i : Int) := by rw [Int.tmod_eq_emod_of_nonneg (by omega)]; exact hi3
  obtain ⟨p, hp⟩ : ∃ p : Nat, p = (s.data.toList.take i).count 10 := ⟨_, rfl⟩
  obtain ⟨q, hq⟩ : ∃ q : Nat, q = tail10 (s.data.toList.take i) := ⟨_, rfl⟩
  have hp2 : p ≤ 1000 := by
    have h1 := count10_le (s.data.toList.take i)
    rw [← hp, List.length_take] at h1
    omega
  have hq2 : q ≤ 1000 := by
    have h1 := tail10_le (s.data.toList.take i)
    rw [← hq, List.length_take] at h1
    omega
  have HG := Lib.hid (tx_get hi2)
  have HP := Lib.hid hp
  have HQ := Lib.hid hq
  have HI := Lib.hid hi
  clear hp hq hi
  have H3 := Lib.hid hi3
  have H4 := Lib.hid hi4
  by_cases hb : s[i]'hi2 = 10
  · have c1 : (((s[i]'hi2).toNat : Int) == 10) = true := by rw [hb]; rfl
    have HB := Lib.hid hb
    clear hb
    go_enter Try.func4, Try.ntmps4
    go_wp2_with (first
      | (have _t := q0; go_at_call 6; clear _t; go_loud (refine (alive4_any _).mono ?_; rintro e w1 ⟨rfl, m1, rfl⟩; have q1 := q0; clear q0))
      | (have _t := q1; go_at_call 7; clear _t; go_loud (refine (place_nat s i p q _ hs (by omega) HP.out HQ.out).mono ?_; rintro e w2 ⟨rfl, rfl⟩; have q2 := q1; clear q1))
      | (have _t := q2; go_at_call 7; clear _t; go_loud (refine (place_next s i ((p : Int) + 1 + 1) 1 _ hs hi2 (by rw [count10_next HG.out, if_pos HB.out, ← HP.out]; rfl) (by rw [tail10_next HG.out, if_pos HB.out]; rfl)).mono ?_; rintro e w2 ⟨rfl, rfl⟩; have q3 := q2; clear q2)))
    go_ret
    exact ⟨rfl, qt_of _ _⟩
  · have c1 : (((s[i]'hi2).toNat : Int) == 10) = false := by
      rw [beq_eq_false_iff_ne]
      intro e
      exact hb (UInt8.toNat_inj.1 (by have : (10 : UInt8).toNat = 10 := rfl
                                      omega))
    have HB := Lib.hid hb
    clear hb
    go_enter Try.func4, Try.ntmps4
    go_wp2_with (first
      | (have _t := q0; go_at_call 6; clear _t; go_loud (refine (alive4_any _).mono ?_; rintro e w1 ⟨rfl, m1, rfl⟩; have q1 := q0; clear q0))
      | (have _t := q1; go_at_call 7; clear _t; go_loud (refine (place_nat s i p q _ hs (by omega) HP.out HQ.out).mono ?_; rintro e w2 ⟨rfl, rfl⟩; have q2 := q1; clear q1))
      | (have _t := q2; go_at_call 7; clear _t; go_loud (refine (place_next s i ((p : Int) + 1) ((q : Int) + 1 + 1) _ hs hi2 (by rw [count10_next HG.out, if_neg HB.out, ← HP.out]) (by rw [tail10_next HG.out, if_neg HB.out, ← HQ.out]; rfl)).mono ?_; rintro e w2 ⟨rfl, rfl⟩; have q3 := q2; clear q2)))
    go_ret
    exact ⟨rfl, qt_of _ _⟩
theorem textnext_any (s : ByteArray) (n : Int) (w : World) (h0 : 0 ≤ n) (h1 : n ≤ 65535) :
    Calls Try.prog 4 #[.string s, .int .u16 n] w fun e w' => e = .returned (.bool true) ∧ Below w.heap.size w w' := by
  obtain ⟨k, rfl⟩ : ∃ k : Nat, n = k := ⟨n.toNat, by omega⟩
  suffices h : Calls Try.prog 4 #[.string s, .int .u16 (k : Int)] w fun e w' => e = .returned (.bool true) ∧ ∃ m, w' = w.drewN m from h.mono fun _ _ ⟨he, h⟩ => ⟨he, qt_below h⟩
  rcases (show (1000 < s.size ∨ s.size = 0) ∨ (0 < s.size ∧ s.size ≤ 1000) by omega) with h | ⟨h2, h⟩
  · exact textnext_out s k w h
  · exact textnext_in s k w h2 h (by omega)
end Go.Proofs.Ytoijmlombnnfbaa
