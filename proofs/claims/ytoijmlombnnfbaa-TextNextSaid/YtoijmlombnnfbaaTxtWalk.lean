/-
  text: the calls' contracts, the program's and the reference's.
-/
import Derived.Test.YtoijmlombnnfbaaTxt
import Derived.Test.YtoijmlombnnfbaaRows
import Derived.Laws.RangeAny
import Derived.Laws.Strings
import Derived.Laws.Strings2
import Derived.Laws.Strings3
import Derived.Lib.Strings
import Derived.Lib.Bytealg
import Derived.Lib.OthersKept
import Derived.Lib.Hide
import Derived.Deep.QuietTactic
import Derived.BigQuiet
import Derived.LoopTactic
import Derived.WalkKit

namespace Go.Proofs.Ytoijmlombnnfbaa
set_option linter.unusedVariables false
set_option linter.unusedSimpArgs false
open Go.RowKit Txt
theorem tx_get {s : ByteArray} {k : Nat} (h : k < s.size) : s.data.toList[k]? = some (s[k]'h) := by
  rw [List.getElem?_eq_getElem (by simpa using h)]
  rfl
theorem tx_len (s : ByteArray) : s.data.toList.length = s.size := by simp
theorem tx_cut {s : ByteArray} (k : Nat) : (s.extract 0 k).data.toList = s.data.toList.take k := by
  simp [ByteArray.data_extract]
theorem tx_b {a b : Bool} (h : a = b) : Ending.returned (.bool a) = .returned (.bool b) := by rw [h]
theorem tx_i {a b : Int} (h : a = b) : Ending.returned (.int .i64 a) = .returned (.int .i64 b) := by rw [h]
theorem tx_ii {a b c d : Int} (h : a = b) (k : c = d) : Ending.returned (.tuple #[.int .i64 a, .int .i64 c]) = .returned (.tuple #[.int .i64 b, .int .i64 d]) := by rw [h, k]
theorem sgn_int (b : UInt8) : sgn b = decide (33 ≤ (b.toNat : Int) ∧ (b.toNat : Int) ≤ 126) := by
  unfold sgn
  exact decide_eq_decide.2 ⟨fun h => by omega, fun h => by omega⟩
theorem qt_of (w : World) (n : Nat) : ∃ m, w.drewN n = w.drewN m := ⟨n, rfl⟩
theorem qt_two (w : World) (n k : Nat) : ∃ m, (w.drewN n).drewN k = w.drewN m := ⟨n + k, World.drewN_drewN _ _ _⟩
/-- A contract that leaves the world, in a quiet region. -/
theorem qt_same {f : FuncId} {args : Array Value} {w : World} {n : Nat} {v : Value} (h : Calls Try.prog f args (w.drewN n) fun e w' => e = .returned v ∧ w.drewN n = w') : Calls Try.prog f args (w.drewN n) fun e w'' => e = .returned v ∧ ∃ m, w'' = w.drewN m :=
  h.mono fun _ _ ⟨he, hm⟩ => ⟨he, n, hm.symm⟩
theorem sign_any (n : Int) (w : World) :
    Calls Try.prog 13 #[.int .u8 n] w fun e w' => e = .returned (.bool (decide (33 ≤ n ∧ n ≤ 126))) ∧ w = w' := by
  go_enter Try.func13, Try.ntmps13
  rcases (show n < 33 ∨ (33 ≤ n ∧ n ≤ 126) ∨ (33 ≤ n ∧ 126 < n) by omega) with h | h | h
  all_goals
    go_wp2
    go_ret
    refine ⟨tx_b ?_, rfl⟩
    simp
    omega
theorem rsign_any (n : Int) (w : World) :
    Calls Try.prog 14 #[.int .u8 n] w fun e w' => e = .returned (.bool (decide (33 ≤ n ∧ n ≤ 126))) ∧ w = w' := by
  go_enter Try.func14, Try.ntmps14
  rcases (show n < 33 ∨ (33 ≤ n ∧ n ≤ 126) ∨ (33 ≤ n ∧ 126 < n) by omega) with h | h | h
  all_goals
    go_wp2
    go_ret
    refine ⟨tx_b ?_, rfl⟩
    simp
    omega
set_option maxRecDepth 100000 in
set_option maxHeartbeats 1600000 in
theorem rule_any (s : ByteArray) (w : World) (hs : s.size ≤ maxLen) :
    Calls Try.prog 9 #[.string s] w fun e w' => e = .returned (.bool (ruleB s.data.toList)) ∧ w = w' := by
  have hl := tx_len s
  unfold maxLen at hs
  go_enter Try.func9, Try.ntmps9
  rcases (show s.size = 0 ∨ 40 < s.size ∨ (1 ≤ s.size ∧ s.size ≤ 40) by omega) with h | h | h
  · have h1 : (s.toList == []) = true := by
      rw [ByteArray.toList_eq, List.eq_nil_of_length_eq_zero (by omega : s.data.toList.length = 0)]
      rfl
    have hr : ruleB s.data.toList = false := by
      unfold ruleB
      rw [decide_eq_false (by omega)]
      rfl
    rw [hr]
    clear hr hl
    go_wp2
    go_ret
    exact ⟨rfl, rfl⟩
  · have h1 : (s.toList == []) = false := by
      rw [ByteArray.toList_eq]
      refine beq_eq_false_iff_ne.2 (fun e => ?_)
      rw [e] at hl
      simp at hl
      omega
    have hr : ruleB s.data.toList = false := by
      unfold ruleB
      rw [decide_eq_false (by omega)]
      rfl
    rw [hr]
    clear hr hl
    go_wp2
    go_ret
    exact ⟨rfl, rfl⟩
  · have h1 : (s.toList == []) = false := by
      rw [ByteArray.toList_eq]
      refine beq_eq_false_iff_ne.2 (fun e => ?_)
      rw [e] at hl
      simp at hl
      omega
    have hr : ruleB s.data.toList = s.data.toList.all sgn := by
      unfold ruleB
      rw [decide_eq_true (by omega)]
      rfl
    obtain ⟨R, hR⟩ : ∃ R, R = ruleB s.data.toList := ⟨_, rfl⟩
    rw [← hR]
    rw [hr] at hR
    have HR := Lib.hid hR
    clear hr hR
    go_wp2
    go_loop [3, 13] (fun v i => ∃ (k : Nat) (z : Value), k ≤ s.size ∧ v = z ∧ i = .int .i64 k ∧ (∀ b ∈ s.data.toList.take k, sgn b = true)) (fun _ i => s.size - (intOf i).toNat)
    case atStart => exact ⟨0, _, Nat.zero_le _, rfl, rfl, by simp⟩
    case round =>
      obtain ⟨k, z, hk, rfl, rfl, hd⟩ := hrel
      have HD := Lib.hid hd
      have HL := Lib.hid hl
      clear hd hl
      by_cases hlt : k < s.size
      · have HG := Lib.hid (tx_get hlt)
        cases hb : sgn (s[k]'hlt) with
        | true =>
          have HB := Lib.hid hb
          rw [sgn_int] at hb
          go_wp2_with (go_at_call 13; refine (sign_any _ _).mono ?_; rintro e w1 ⟨rfl, rfl⟩; rw [hb])
          go_round
          case rel => exact ⟨k + 1, _, by omega, rfl, by go_num, take_sgn HG.out HB.out HD.out⟩
          case measure => simp [intOf]; omega
        | false =>
          have HB := Lib.hid hb
          rw [sgn_int] at hb
          go_wp2_with (go_at_call 13; refine (sign_any _ _).mono ?_; rintro e w1 ⟨rfl, rfl⟩; rw [hb])
          go_ret
          exact ⟨tx_b (HR.out.trans (rule_no HG.out HB.out)).symm, rfl⟩
      · go_wp2
        go_ret
        refine ⟨tx_b (HR.out.trans (rule_yes ?_)).symm, rfl⟩
        rw [HL.out, show s.size = k by omega]
        exact HD.out
set_option maxRecDepth 100000 in
set_option maxHeartbeats 1600000 in
theorem rrule_any (s : ByteArray) (w : World) (hs : s.size ≤ maxLen) :
    Calls Try.prog 10 #[.string s] w fun e w' => e = .returned (.bool (ruleB s.data.toList)) ∧ w = w' := by
  have hl := tx_len s
  unfold maxLen at hs
  have HL := Lib.hid hl
  clear hl
  obtain ⟨R, hR⟩ : ∃ R, R = ruleB s.data.toList := ⟨_, rfl⟩
  rw [← hR]
  have HR := Lib.hid hR
  clear hR
  go_enter Try.func10, Try.ntmps10
  go_wp2
  go_loop [3] (fun i => ∃ (k : Nat), k ≤ s.size ∧ i = .int .i64 k ∧ (∀ b ∈ s.data.toList.take k, sgn b = true)) (fun i => s.size - (intOf i).toNat)
  case atStart => exact ⟨0, Nat.zero_le _, rfl, by simp⟩
  case round =>
    obtain ⟨k, hk, rfl, hd⟩ := hrel
    have HD := Lib.hid hd
    clear hd
    by_cases hlt : k < s.size
    · have HG := Lib.hid (tx_get hlt)
      cases hb : sgn (s[k]'hlt) with
      | true =>
        have HB := Lib.hid hb
        rw [sgn_int] at hb
        go_wp2_with (go_at_call 14; refine (rsign_any _ _).mono ?_; rintro e w1 ⟨rfl, rfl⟩; rw [hb])
        go_round
        case rel => exact ⟨k + 1, by omega, by go_num, take_sgn HG.out HB.out HD.out⟩
        case measure => simp [intOf]; omega
      | false =>
        have HB := Lib.hid hb
        rw [sgn_int] at hb
        go_wp2_with (go_at_call 14; refine (rsign_any _ _).mono ?_; rintro e w1 ⟨rfl, rfl⟩; rw [hb])
        go_ret
        refine ⟨tx_b ?_, rfl⟩
        rw [HR.out]
        unfold ruleB
        rw [rule_no HG.out HB.out, Bool.and_false]
    · have hf : s.data.toList.all sgn = true := rule_yes (by rw [HL.out, show s.size = k by omega]; exact HD.out)
      have hr : ruleB s.data.toList = decide (1 ≤ s.size ∧ s.size ≤ 40) := by
        unfold ruleB
        rw [hf, Bool.and_true, HL.out]
      have hr2 := HR.out.trans hr
      clear hf hr HR
      subst hr2
      rcases (show s.size < 1 ∨ (1 ≤ s.size ∧ s.size ≤ 40) ∨ (1 ≤ s.size ∧ 40 < s.size) by omega) with h | h | h
      all_goals
        go_wp2
        go_ret
        refine ⟨tx_b ?_, rfl⟩
        simp
        omega
set_option maxRecDepth 100000 in
set_option maxHeartbeats 1600000 in
theorem common_any (s t : ByteArray) (w : World) (hs : s.size ≤ maxLen) (ht : t.size ≤ maxLen) :
    Calls Try.prog 11 #[.string s, .string t] w fun e w' => e = .returned (.int .i64 (comm s.data.toList t.data.toList : Nat)) ∧ ∃ m, w' = w.drewN m := by
  have HL := Lib.hid (tx_len s)
  have HT := Lib.hid (tx_len t)
  unfold maxLen at hs ht
  go_enter Try.func11, Try.ntmps11
  obtain ⟨R, hR⟩ : ∃ R : Nat, R = comm s.data.toList t.data.toList := ⟨_, rfl⟩
  rw [← hR]
  have HR := Lib.hid hR
  clear hR
  rcases (show s.size ≤ t.size ∨ t.size < s.size by omega) with h | h
  · go_wp2
    go_loopw [6, 13] (fun v i w' => ∃ (k : Nat) (z : Value) (nd : Nat), w' = w.drewN nd ∧ k ≤ s.size ∧ v = z ∧ i = .int .i64 k ∧ s.data.toList.take k = t.data.toList.take k) (fun _ i _ => s.size - (intOf i).toNat)
    case atStart => exact ⟨0, _, 0, rfl, Nat.zero_le _, rfl, rfl, by simp⟩
    case round =>
      obtain ⟨k, z, nd, rfl, hk, rfl, rfl, hd⟩ := hrel
      have HD := Lib.hid hd
      clear hd
      by_cases hlt : k < s.size
      · have h1 : k < s.size := by omega
        have h2 : k < t.size := by omega
        have HG := Lib.hid (tx_get h1)
        have HF := Lib.hid (tx_get h2)
        by_cases hq : s[k]'h1 = t[k]'h2
        · have hb : (((s[k]'h1).toNat : Int) != ((t[k]'h2).toNat : Int)) = false := by rw [hq]; simp
          have HQ := Lib.hid hq
          clear hq
          go_wp2
          go_quiet (fail)
          go_wp2
          go_roundw
          case rel => exact ⟨k + 1, _, _, rfl, by omega, rfl, by go_num, take_same HD.out (by rw [HG.out, HQ.out]) HF.out⟩
          case measure => simp [intOf]; omega
        · have hb : (((s[k]'h1).toNat : Int) != ((t[k]'h2).toNat : Int)) = true := by
            rw [bne_iff_ne]
            intro e
            exact hq (UInt8.toNat_inj.1 (by omega))
          have HQ := Lib.hid hq
          clear hq
          go_wp2
          go_quiet (fail)
          go_wp2
          go_ret
          refine ⟨tx_i ?_, (by first | exact qt_of _ _ | exact qt_two _ _ _)⟩
          rw [HR.out, comm_eq HD.out (by rw [HL.out]; omega) (by rw [HT.out]; omega) (fun x y hx hy => by
            rw [HG.out] at hx
            rw [HF.out] at hy
            cases hx
            cases hy
            exact HQ.out)]
      · go_wp2
        go_ret
        refine ⟨tx_i ?_, (by first | exact qt_of _ _ | exact qt_two _ _ _)⟩
        rw [HR.out, comm_eq HD.out (by rw [HL.out]; omega) (by rw [HT.out]; omega) (fun x y hx hy => by
          have hx' := (List.getElem?_eq_some_iff.1 hx).1
          have hy' := (List.getElem?_eq_some_iff.1 hy).1
          rw [HL.out] at hx'
          rw [HT.out] at hy'
          omega)]
        omega
  · go_wp2
    go_loopw [6, 13] (fun v i w' => ∃ (k : Nat) (z : Value) (nd : Nat), w' = w.drewN nd ∧ k ≤ t.size ∧ v = z ∧ i = .int .i64 k ∧ s.data.toList.take k = t.data.toList.take k) (fun _ i _ => t.size - (intOf i).toNat)
    case atStart => exact ⟨0, _, 0, rfl, Nat.zero_le _, rfl, rfl, by simp⟩
    case round =>
      obtain ⟨k, z, nd, rfl, hk, rfl, rfl, hd⟩ := hrel
      have HD := Lib.hid hd
      clear hd
      by_cases hlt : k < t.size
      · have h1 : k < s.size := by omega
        have h2 : k < t.size := by omega
        have HG := Lib.hid (tx_get h1)
        have HF := Lib.hid (tx_get h2)
        by_cases hq : s[k]'h1 = t[k]'h2
        · have hb : (((s[k]'h1).toNat : Int) != ((t[k]'h2).toNat : Int)) = false := by rw [hq]; simp
          have HQ := Lib.hid hq
          clear hq
          go_wp2
          go_quiet (fail)
          go_wp2
          go_roundw
          case rel => exact ⟨k + 1, _, _, rfl, by omega, rfl, by go_num, take_same HD.out (by rw [HG.out, HQ.out]) HF.out⟩
          case measure => simp [intOf]; omega
        · have hb : (((s[k]'h1).toNat : Int) != ((t[k]'h2).toNat : Int)) = true := by
            rw [bne_iff_ne]
            intro e
            exact hq (UInt8.toNat_inj.1 (by omega))
          have HQ := Lib.hid hq
          clear hq
          go_wp2
          go_quiet (fail)
          go_wp2
          go_ret
          refine ⟨tx_i ?_, (by first | exact qt_of _ _ | exact qt_two _ _ _)⟩
          rw [HR.out, comm_eq HD.out (by rw [HL.out]; omega) (by rw [HT.out]; omega) (fun x y hx hy => by
            rw [HG.out] at hx
            rw [HF.out] at hy
            cases hx
            cases hy
            exact HQ.out)]
      · go_wp2
        go_ret
        refine ⟨tx_i ?_, (by first | exact qt_of _ _ | exact qt_two _ _ _)⟩
        rw [HR.out, comm_eq HD.out (by rw [HL.out]; omega) (by rw [HT.out]; omega) (fun x y hx hy => by
          have hx' := (List.getElem?_eq_some_iff.1 hx).1
          have hy' := (List.getElem?_eq_some_iff.1 hy).1
          rw [HL.out] at hx'
          rw [HT.out] at hy'
          omega)]
        omega
set_option maxRecDepth 100000 in
set_option maxHeartbeats 1600000 in
theorem rcommon_any (s t : ByteArray) (w : World) (hs : s.size ≤ maxLen) (ht : t.size ≤ maxLen) :
    Calls Try.prog 12 #[.string s, .string t] w fun e w' => e = .returned (.int .i64 (comm s.data.toList t.data.toList : Nat)) ∧ ∃ m, w' = w.drewN m := by
  have HL := Lib.hid (tx_len s)
  have HT := Lib.hid (tx_len t)
  unfold maxLen at hs ht
  go_enter Try.func12, Try.ntmps12
  obtain ⟨R, hR⟩ : ∃ R : Nat, R = comm s.data.toList t.data.toList := ⟨_, rfl⟩
  rw [← hR]
  have HR := Lib.hid hR
  clear hR
  go_wp2
  go_loopw [5] (fun i w' => ∃ (k nd : Nat), w' = w.drewN nd ∧ k ≤ s.size ∧ k ≤ t.size ∧ i = .int .i64 k ∧ s.data.toList.take k = t.data.toList.take k) (fun i _ => s.size - (intOf i).toNat)
  case atStart => exact ⟨0, 0, rfl, Nat.zero_le _, Nat.zero_le _, rfl, by simp⟩
  case round =>
    obtain ⟨k, nd, rfl, hk, hk2, rfl, hd⟩ := hrel
    have HD := Lib.hid hd
    clear hd
    by_cases h1 : k < s.size
    · by_cases h2 : k < t.size
      · have HG := Lib.hid (tx_get h1)
        have HF := Lib.hid (tx_get h2)
        by_cases hq : s[k]'h1 = t[k]'h2
        · have hb : (((s[k]'h1).toNat : Int) == ((t[k]'h2).toNat : Int)) = true := by rw [hq]; simp
          have HQ := Lib.hid hq
          clear hq
          go_wp2
          go_quiet (fail)
          go_wp2
          go_roundw
          case rel => exact ⟨k + 1, _, rfl, by omega, by omega, by go_num, take_same HD.out (by rw [HG.out, HQ.out]) HF.out⟩
          case measure => simp [intOf]; omega
        · have hb : (((s[k]'h1).toNat : Int) == ((t[k]'h2).toNat : Int)) = false := by
            rw [beq_eq_false_iff_ne]
            intro e
            exact hq (UInt8.toNat_inj.1 (by omega))
          have HQ := Lib.hid hq
          clear hq
          go_wp2
          go_quiet (fail)
          go_wp2
          go_ret
          refine ⟨tx_i ?_, (by first | exact qt_of _ _ | exact qt_two _ _ _)⟩
          rw [HR.out, comm_eq HD.out (by rw [HL.out]; omega) (by rw [HT.out]; omega) (fun x y hx hy => by
            rw [HG.out] at hx
            rw [HF.out] at hy
            cases hx
            cases hy
            exact HQ.out)]
      · go_wp2
        go_quiet (fail)
        go_wp2
        go_ret
        refine ⟨tx_i ?_, (by first | exact qt_of _ _ | exact qt_two _ _ _)⟩
        rw [HR.out, comm_eq HD.out (by rw [HL.out]; omega) (by rw [HT.out]; omega) (fun x y hx hy => by
          have hy' := (List.getElem?_eq_some_iff.1 hy).1
          rw [HT.out] at hy'
          omega)]
    · go_wp2
      go_quiet (fail)
      go_wp2
      go_ret
      refine ⟨tx_i ?_, (by first | exact qt_of _ _ | exact qt_two _ _ _)⟩
      rw [HR.out, comm_eq HD.out (by rw [HL.out]; omega) (by rw [HT.out]; omega) (fun x y hx hy => by
        have hx' := (List.getElem?_eq_some_iff.1 hx).1
        rw [HL.out] at hx'
        omega)]
/-- The tests of a place: it is one, or it isn't. -/
theorem place_no {l : List UInt8} {a : Int} (h : ¬ (0 ≤ a ∧ a ≤ l.length)) : lineAt l a = 0 ∧ colAt l a = 0 := ⟨if_neg h, if_neg h⟩
theorem place_yes {l : List UInt8} {k : Nat} (h : k ≤ l.length) : lineAt l k = (((l.take k).count 10 : Nat) : Int) + 1 ∧ colAt l k = ((tail10 (l.take k) : Nat) : Int) + 1 := by
  unfold lineAt colAt
  rw [if_pos (by omega), if_pos (by omega)]
  exact ⟨rfl, rfl⟩
set_option maxRecDepth 100000 in
set_option maxHeartbeats 1600000 in
theorem rplace_any (s : ByteArray) (a : Int) (w : World) (hs : s.size ≤ 1000000) (h0 : -9223372036854775808 ≤ a) (h1 : a ≤ 9223372036854775807) :
    Calls Try.prog 8 #[.string s, .int .i64 a] w fun e w' => e = .returned (.tuple #[.int .i64 (lineAt s.data.toList a), .int .i64 (colAt s.data.toList a)]) ∧ w = w' := by
  have hl := tx_len s
  rcases (show a < 0 ∨ (s.size : Int) < a ∨ (0 ≤ a ∧ a ≤ s.size) by omega) with h | h | h
  · rw [(place_no (l := s.data.toList) (a := a) (by omega)).1, (place_no (l := s.data.toList) (a := a) (by omega)).2]
    clear hl
    go_enter Try.func8, Try.ntmps8
    go_wp2
    go_ret2
    exact ⟨rfl, rfl⟩
  · rw [(place_no (l := s.data.toList) (a := a) (by omega)).1, (place_no (l := s.data.toList) (a := a) (by omega)).2]
    clear hl
    go_enter Try.func8, Try.ntmps8
    have h2 : 0 ≤ a := by omega
    go_wp2
    go_ret2
    exact ⟨rfl, rfl⟩
  · obtain ⟨m, rfl⟩ : ∃ m : Nat, a = m := ⟨a.toNat, by omega⟩
    rw [(place_yes (l := s.data.toList) (k := m) (by omega)).1, (place_yes (l := s.data.toList) (k := m) (by omega)).2]
    obtain ⟨p, hp⟩ : ∃ p : Nat, p = (s.data.toList.take m).count 10 := ⟨_, rfl⟩
    obtain ⟨q, hq⟩ : ∃ q : Nat, q = tail10 (s.data.toList.take m) := ⟨_, rfl⟩
    rw [← hp, ← hq]
    have HP := Lib.hid hp
    have HQ := Lib.hid hq
    clear hl hp hq
    go_enter Try.func8, Try.ntmps8
    go_wp2
    go_loop [6, 7, 8] (fun l c i => ∃ (k x y : Nat), k ≤ m ∧ x ≤ k ∧ y ≤ k ∧ l = .int .i64 (x + 1 : Nat) ∧ c = .int .i64 (y + 1 : Nat) ∧ i = .int .i64 k ∧ x = (s.data.toList.take k).count 10 ∧ y = tail10 (s.data.toList.take k)) (fun _ _ i => m - (intOf i).toNat)
    case atStart => exact ⟨0, 0, 0, Nat.zero_le _, Nat.le_refl _, Nat.le_refl _, rfl, rfl, rfl, by simp, by simp [tail10]⟩
    case round =>
      obtain ⟨k, x, y, hk, hx, hy, rfl, rfl, rfl, hx2, hy2⟩ := hrel
      have HX := Lib.hid hx2
      have HY := Lib.hid hy2
      clear hx2 hy2
      by_cases hlt : k < m
      · have h2 : k < s.size := by omega
        have HG := Lib.hid (tx_get h2)
        by_cases hb : s[k]'h2 = 10
        · have c1 : (((s[k]'h2).toNat : Int) == 10) = true := by rw [hb]; rfl
          have HB := Lib.hid hb
          clear hb
          go_wp2
          go_round
          case rel => exact ⟨k + 1, x + 1, 0, by omega, by omega, by omega, by go_num, rfl, by go_num, by rw [count10_next HG.out, if_pos HB.out, HX.out], by rw [tail10_next HG.out, if_pos HB.out]⟩
          case measure => simp [intOf]; omega
        · have c1 : (((s[k]'h2).toNat : Int) == 10) = false := by
            rw [beq_eq_false_iff_ne]
            intro e
            exact hb (UInt8.toNat_inj.1 (by have : (10 : UInt8).toNat = 10 := rfl
                                            omega))
          have HB := Lib.hid hb
          clear hb
          go_wp2
          go_round
          case rel => exact ⟨k + 1, x, y + 1, by omega, by omega, by omega, by go_num, by go_num, by go_num, by rw [count10_next HG.out, if_neg HB.out, HX.out], by rw [tail10_next HG.out, if_neg HB.out, HY.out]⟩
          case measure => simp [intOf]; omega
      · go_wp2
        go_ret2
        have hk2 : k = m := by omega
        refine ⟨tx_ii ?_ ?_, rfl⟩
        · rw [HP.out, ← hk2, ← HX.out]
        · rw [HQ.out, ← hk2, ← HY.out]
set_option maxRecDepth 100000 in
set_option maxHeartbeats 1600000 in
theorem last_any (s : ByteArray) (w : World) (hs : s.size ≤ maxLen) :
    Calls Try.prog 20 #[.string s, .int .u8 10] w fun e w' => e = .returned (.int .i64 ((s.size : Int) - 1 - (tail10 s.data.toList : Nat))) ∧ w = w' := by
  have HL := Lib.hid (tx_len s)
  have hle := tail10_le s.data.toList
  rw [HL.out] at hle
  unfold maxLen at hs
  obtain ⟨q, hq⟩ : ∃ q : Nat, q = tail10 s.data.toList := ⟨_, rfl⟩
  rw [← hq] at hle ⊢
  have HQ := Lib.hid hq
  clear hq
  go_enter Try.func20, Try.ntmps20
  go_wp2
  go_loop [5] (fun i => ∃ (k : Nat), k ≤ s.size ∧ i = .int .i64 ((k : Int) - 1) ∧ (∀ b ∈ s.data.toList.drop k, b ≠ 10)) (fun i => ((intOf i) + 1).toNat)
  case atStart => exact ⟨s.size, Nat.le_refl _, by go_num, by rw [List.drop_of_length_le (by rw [HL.out]; omega)]; simp⟩
  case round =>
    obtain ⟨k, hk, rfl, hd⟩ := hrel
    have HD := Lib.hid hd
    clear hd
    by_cases hlt : 0 < k
    · obtain ⟨j, rfl⟩ : ∃ j : Nat, k = j + 1 := ⟨k - 1, by omega⟩
      have e : (((j + 1 : Nat) : Int) - 1) = (j : Int) := by omega
      rw [e]
      have h2 : j < s.size := by omega
      have HG := Lib.hid (tx_get h2)
      by_cases hb : s[j]'h2 = 10
      · have c1 : (((s[j]'h2).toNat : Int) == 10) = true := by rw [hb]; rfl
        have HB := Lib.hid hb
        clear hb
        go_wp2
        go_ret
        refine ⟨tx_i ?_, rfl⟩
        have := tail10_at (by rw [HG.out, HB.out]) HD.out
        rw [HL.out] at this
        rw [HQ.out, this]
        omega
      · have c1 : (((s[j]'h2).toNat : Int) == 10) = false := by
          rw [beq_eq_false_iff_ne]
          intro e
          exact hb (UInt8.toNat_inj.1 (by have : (10 : UInt8).toNat = 10 := rfl
                                          omega))
        have HB := Lib.hid hb
        clear hb
        go_wp2
        go_round
        case rel => exact ⟨j, by omega, by go_num, drop_ne HG.out HB.out HD.out⟩
        case measure => simp [intOf]
    · have hk0 : k = 0 := by omega
      subst hk0
      go_wp2
      go_ret
      refine ⟨tx_i ?_, rfl⟩
      have := tail10_none HD.out
      rw [List.drop_zero, HL.out] at this
      rw [HQ.out, this]
      omega
theorem lastb_any (s : ByteArray) (w : World) (hs : s.size ≤ maxLen) :
    Calls Try.prog 16 #[.string s, .int .u8 10] w fun e w' => e = .returned (.int .i64 ((s.size : Int) - 1 - (tail10 s.data.toList : Nat))) ∧ w = w' := by
  go_enter Try.func16, Try.ntmps16
  go_wp2_with (go_at_call 20; refine (last_any s _ hs).mono ?_; rintro e w1 ⟨rfl, rfl⟩)
  go_ret
  exact ⟨rfl, rfl⟩
set_option maxRecDepth 100000 in
set_option maxHeartbeats 1600000 in
theorem count_any (s : ByteArray) (w : World) :
    Calls Try.prog 15 #[.string s, .string ⟨#[10]⟩] w fun e w' => e = .returned (.int .i64 (s.data.toList.count 10 : Nat)) ∧ w = w' := by
  go_enter Try.func15, Try.ntmps15
  go_wp2
  rw [run_callFunc_extern Try.func18 (by kernel_rfl) (by kernel_rfl) (by kernel_rfl) (e := Extern.BytealgCount.count) (by kernel_rfl), Lib.run_countString]
  simp only [Result.andThen]
  rw [Oper.upon_value]
  go_wp2
  go_ret
  exact ⟨rfl, rfl⟩
set_option maxRecDepth 100000 in
set_option maxHeartbeats 1600000 in
theorem place_any (s : ByteArray) (a : Int) (w : World) (hs : s.size ≤ 1000000) (h0 : -9223372036854775808 ≤ a) (h1 : a ≤ 9223372036854775807) :
    Calls Try.prog 7 #[.string s, .int .i64 a] w fun e w' => e = .returned (.tuple #[.int .i64 (lineAt s.data.toList a), .int .i64 (colAt s.data.toList a)]) ∧ w = w' := by
  have hl := tx_len s
  rcases (show a < 0 ∨ (s.size : Int) < a ∨ (0 ≤ a ∧ a ≤ s.size) by omega) with h | h | h
  · rw [(place_no (l := s.data.toList) (a := a) (by omega)).1, (place_no (l := s.data.toList) (a := a) (by omega)).2]
    clear hl
    go_enter Try.func7, Try.ntmps7
    go_wp2
    go_ret2
    exact ⟨rfl, rfl⟩
  · rw [(place_no (l := s.data.toList) (a := a) (by omega)).1, (place_no (l := s.data.toList) (a := a) (by omega)).2]
    clear hl
    go_enter Try.func7, Try.ntmps7
    have h2 : 0 ≤ a := by omega
    go_wp2
    go_ret2
    exact ⟨rfl, rfl⟩
  · obtain ⟨m, rfl⟩ : ∃ m : Nat, a = m := ⟨a.toNat, by omega⟩
    rw [(place_yes (l := s.data.toList) (k := m) (by omega)).1, (place_yes (l := s.data.toList) (k := m) (by omega)).2]
    have hm : m ≤ s.size := by omega
    obtain ⟨t, ht⟩ : ∃ t, t = s.extract 0 m := ⟨_, rfl⟩
    have htd : t.data.toList = s.data.toList.take m := by rw [ht, tx_cut]
    have hts : t.size = m := by rw [← tx_len, htd, List.length_take]; omega
    have htm : t.size ≤ maxLen := by unfold maxLen; omega
    have hc := count10_le t.data.toList
    have hq0 := tail10_le t.data.toList
    rw [tx_len] at hc hq0
    obtain ⟨p, hp⟩ : ∃ p : Nat, p = t.data.toList.count 10 := ⟨_, rfl⟩
    obtain ⟨q, hq⟩ : ∃ q : Nat, q = tail10 t.data.toList := ⟨_, rfl⟩
    rw [← htd, ← hp, ← hq]
    rw [← hp] at hc
    rw [← hq] at hq0
    have HP := Lib.hid hp
    have HQ := Lib.hid hq
    have HT := Lib.hid ht
    have HS := Lib.hid hts
    clear hl hp hq htd ht hts
    go_enter Try.func7, Try.ntmps7
    go_wp2_with fail
    rw [← HT.out]
    refine (count_any t _).mono ?_
    rintro e w1 ⟨rfl, rfl⟩
    rw [← HP.out]
    have hp0 : (p : Int) ≤ 1000000 := by
      have := HS.out
      omega
    have hq1 : (q : Int) ≤ (m : Int) := by
      have := HS.out
      omega
    go_wp2_with (go_at_call 16; refine (lastb_any t _ htm).mono ?_; rintro e w1 ⟨rfl, rfl⟩; rw [← HQ.out, HS.out])
    go_ret2
    refine ⟨tx_ii rfl ?_, rfl⟩
    omega
end Go.Proofs.Ytoijmlombnnfbaa
