/-
  dec: how many digits stand somewhere; a text without its minus; whether digits are a number's.
-/
import Derived.Test.YteekijmhghokkaaDoorDigs
import Derived.Test.YteekijmhghokkaaDoorLimbA
import Derived.Laws.RangeString
import Derived.Laws.RangeAny
import Derived.Laws.Strings
import Derived.Laws.Strings2
import Derived.Laws.Strings3
import Derived.Lib.OthersKept
import Derived.Lib.Strings
import Derived.LoopTactic
import Derived.WalkKit

namespace Go.Proofs.YteekijmhghokkaaDoor
set_option linter.unusedVariables false
set_option linter.unusedSimpArgs false
open Go.RowKit Num Digs
theorem ba_get {s : ByteArray} {k : Nat} (h : k < s.size) : s.data.toList[k]? = some (s[k]'h) := by
  rw [List.getElem?_eq_getElem (by simpa using h)]
  rfl
theorem ba_len (s : ByteArray) : s.data.toList.length = s.size := by simp
theorem ba_nil {s : ByteArray} (h : ¬ 0 < s.size) : s.data.toList = [] := List.eq_nil_of_length_eq_zero (by rw [ba_len]; omega)
theorem ba_ne {s : ByteArray} (h : 0 < s.size) : s.data.toList ≠ [] := fun e => by
  have := ba_len s
  rw [e] at this
  simp at this
  omega
theorem decode_dig {s : ByteArray} {k : Nat} (h : k < s.size) (hd : isd (s[k]'h) = true) : Utf8.decode s k = ((s[k]'h).toNat, 1) := by
  unfold isd at hd
  simp at hd
  exact decode_ascii s k h (by omega)
theorem decode_not {s : ByteArray} {k : Nat} (h : k < s.size) (hd : isd (s[k]'h) = false) : ¬ (48 ≤ (Utf8.decode s k).1 ∧ (Utf8.decode s k).1 ≤ 57) := by
  unfold isd at hd
  simp at hd
  rcases Nat.lt_or_ge (s[k]'h).toNat 128 with h1 | h1
  · rw [decode_ascii s k h h1]
    simp only
    omega
  · have := (decode_high s k h h1).1
    omega
theorem take_isd {l : List UInt8} {k : Nat} {b : UInt8} (h : l[k]? = some b) (hd : isd b = true) (hp : ∀ x ∈ l.take k, isd x = true) : ∀ x ∈ l.take (k + 1), isd x = true := by
  intro x hx
  rw [List.take_add_one, h] at hx
  rcases List.mem_append.1 hx with hx | hx
  · exact hp x hx
  · simp at hx
    rw [hx]
    exact hd
theorem iter_below (w : World) (s : ByteArray) (k : Nat) : Below w.heap.size w (w.iter s k) := (Below.refl _ w).alloc (Nat.le_refl _) _
theorem ret_i64 {a b : Int} (h : a = b) : Ending.returned (.int .i64 a) = .returned (.int .i64 b) := by rw [h]
theorem ret_bool {a b : Bool} (h : a = b) : Ending.returned (.bool a) = .returned (.bool b) := by rw [h]
/-- What Digits leaves. -/
def RetN (n : Int) (w : World) (e : Ending) (w' : World) : Prop := e = .returned (.int .i64 n) ∧ Below w.heap.size w w'
set_option maxRecDepth 100000 in
set_option maxHeartbeats 1600000 in
theorem digits_in (s : ByteArray) (k : Nat) (w : World) (hs : s.size ≤ maxLen) (hk : k ≤ s.size) :
    Calls Tryd.prog 15 #[.string s, .int .i64 (k : Int)] w (RetN (lead (s.data.toList.drop k)) w) := by
  unfold maxLen at hs
  obtain ⟨t, ht⟩ : ∃ t, t = s.extract k s.size := ⟨_, rfl⟩
  have hts : t.size = s.size - k := by rw [ht]; simp
  have htl : t.data.toList = s.data.toList.drop k := by rw [ht]; simp [ByteArray.data_extract]; rw [List.take_of_length_le (by simp)]
  have HL := Lib.hid htl
  have HT := Lib.hid ht
  have hts2 : t.size ≤ 9223372036854775807 := by omega
  clear htl hts ht
  have c1 : decide (s.size < k) = false := by simpa using hk
  have c2 : decide ((k : Int) < 0) = false := by simp
  go_enter Tryd.func15, Tryd.ntmps15
  go_wp2
  rw [← HT.out]
  go_loopw [6] (fun v w' => ∃ (pos : Nat) (z : Value), pos ≤ t.size ∧ v = z ∧ w' = w.iter t pos ∧ (∀ b ∈ t.data.toList.take pos, isd b = true)) (fun _ w' => t.size - w'.iterPos w.heap.size)
  case atStart => exact ⟨0, _, Nat.zero_le _, rfl, rfl, by simp⟩
  case round =>
    obtain ⟨pos, z, hp, rfl, rfl, hd⟩ := hrel
    have HD := Lib.hid hd
    clear hd
    by_cases hlt : pos < t.size
    · have hg := ba_get hlt
      have HG := Lib.hid hg
      clear hg
      cases hb : isd (t[pos]'hlt) with
      | true =>
        have hnx : ∀ ty, (Instr.next (.pointer (some ⟨w.heap.size, 0, none⟩)) true ty).run Tryd.prog (w.iter t pos) = .ok (.tuple #[.bool true, .int .i64 pos, .int .i32 (t[pos]'hlt).toNat]) (w.iter t (pos + 1)) := fun ty => by
          have e := run_next_any (P := Tryd.prog) w t pos ty hlt
          rw [decode_dig hlt hb] at e
          exact e
        have hr : 48 ≤ (t[pos]'hlt).toNat ∧ (t[pos]'hlt).toNat ≤ 57 := by
          have := hb
          unfold isd at this
          simpa using this
        obtain ⟨r, hr2⟩ : ∃ r, r = (t[pos]'hlt).toNat := ⟨_, rfl⟩
        rw [← hr2] at hnx hr
        have HB := Lib.hid hb
        clear hb hr2
        go_wp2
        go_roundw
        case rel => exact ⟨pos + 1, _, by omega, rfl, rfl, take_isd HG.out HB.out HD.out⟩
        case measure =>
          simp
          omega
      | false =>
        have hnx : ∀ ty, (Instr.next (.pointer (some ⟨w.heap.size, 0, none⟩)) true ty).run Tryd.prog (w.iter t pos) = _ := fun ty => run_next_any w t pos ty hlt
        have hr := decode_not hlt hb
        have HB := Lib.hid hb
        clear hb
        generalize Utf8.decode t pos = D at hnx hr
        have hl : lead t.data.toList = pos := lead_eq (by simpa using hp) HD.out (fun b hb2 => by
          rw [HG.out] at hb2
          cases hb2
          exact HB.out)
        rw [HL.out] at hl
        go_wp2
        all_goals
          go_ret
          exact ⟨ret_i64 (by rw [← hl]), iter_below _ _ _⟩
    · have hnx : ∀ ty, (Instr.next (.pointer (some ⟨w.heap.size, 0, none⟩)) true ty).run Tryd.prog (w.iter t pos) = _ := fun ty => run_next_end w t pos ty hlt
      go_wp2
      go_ret
      refine ⟨ret_i64 ?_, iter_below _ _ _⟩
      have hpt : pos = t.data.toList.length := by have : t.data.toList.length = t.size := by simp
                                                  omega
      have hd := HD.out
      rw [hpt, List.take_length] at hd
      rw [← HL.out, lead_all.2 hd]
      simp
set_option maxRecDepth 100000 in
set_option maxHeartbeats 1600000 in
theorem digits_out (s : ByteArray) (a : Int) (w : World) (hs : s.size ≤ maxLen) (hk : ¬ (0 ≤ a ∧ a ≤ s.size)) (h0 : -9223372036854775808 ≤ a) (h1 : a ≤ 9223372036854775807) :
    Calls Tryd.prog 15 #[.string s, .int .i64 a] w (RetN 0 w) := by
  unfold maxLen at hs
  go_enter Tryd.func15, Tryd.ntmps15
  rcases (show a < 0 ∨ 0 ≤ a by omega) with h | h
  · go_wp2
    go_ret
    exact ⟨rfl, Below.refl _ _⟩
  · have h2 : (s.size : Int) < a := by omega
    go_wp2
    go_ret
    exact ⟨rfl, Below.refl _ _⟩
theorem digits_any (s : ByteArray) (a : Int) (w : World) (hs : s.size ≤ maxLen) (h0 : -9223372036854775808 ≤ a) (h1 : a ≤ 9223372036854775807) :
    Calls Tryd.prog 15 #[.string s, .int .i64 a] w (RetN (leadAt s.data.toList a) w) := by
  unfold leadAt
  by_cases h : 0 ≤ a ∧ a ≤ s.size
  · obtain ⟨k, rfl⟩ : ∃ k : Nat, a = k := ⟨a.toNat, by omega⟩
    rw [if_pos (by simpa using h)]
    exact digits_in s k w hs (by omega)
  · rw [if_neg (by simpa using h)]
    exact digits_out s a w hs h h0 h1
set_option maxRecDepth 100000 in
set_option maxHeartbeats 1600000 in
theorem rdigits_any (s : ByteArray) (a : Int) (w : World) (hs : s.size ≤ maxLen) (h0 : -9223372036854775808 ≤ a) (h1 : a ≤ 9223372036854775807) :
    Calls Tryd.prog 16 #[.string s, .int .i64 a] w (RetN (leadAt s.data.toList a) w) := by
  unfold maxLen at hs
  by_cases h : 0 ≤ a
  · obtain ⟨k, rfl⟩ : ∃ k : Nat, a = k := ⟨a.toNat, by omega⟩
    have c1 : decide ((0 : Int) ≤ (k : Int)) = true := by simp
    go_enter Tryd.func16, Tryd.ntmps16
    go_wp2
    go_loop [5, 6] (fun n i => ∃ j : Nat, (k ≤ s.size → k + j ≤ s.size) ∧ (s.size < k → j = 0) ∧ i = .int .i64 ((k + j : Nat) : Int) ∧ n = .int .i64 j ∧ (∀ b ∈ (s.data.toList.drop k).take j, isd b = true)) (fun _ i => s.size - (intOf i).toNat)
    case atStart => exact ⟨0, fun h => h, fun _ => rfl, rfl, rfl, by simp⟩
    case round =>
      obtain ⟨j, h1, h2, rfl, rfl, hd⟩ := hrel
      have HD := Lib.hid hd
      clear hd
      by_cases hlt : k + j < s.size
      · have hg := ba_get hlt
        cases hb : isd (s[k + j]'hlt) with
        | true =>
          have hr : 48 ≤ (s[k + j]'hlt).toNat ∧ (s[k + j]'hlt).toNat ≤ 57 := by
            have := hb
            unfold isd at this
            simpa using this
          have HB := Lib.hid hb
          have HG := Lib.hid hg
          clear hb hg
          go_wp2
          go_round
          case rel =>
            refine ⟨j + 1, fun _ => by omega, fun _ => by omega, by go_num, by go_num, take_isd (b := s[k + j]'hlt) ?_ HB.out HD.out⟩
            rw [List.getElem?_drop]
            exact HG.out
          case measure => simp [intOf]; omega
        | false =>
          have hr : ¬ (48 ≤ (s[k + j]'hlt).toNat ∧ (s[k + j]'hlt).toNat ≤ 57) := by
            have := hb
            unfold isd at this
            simpa using this
          have hl : lead (s.data.toList.drop k) = j := lead_eq (by simp; omega) HD.out (fun b hb2 => by
            rw [List.getElem?_drop, hg] at hb2
            cases hb2
            exact hb)
          have HL := Lib.hid hl
          clear hb hg hl
          rcases (show (s[k + j]'hlt).toNat < 48 ∨ (48 ≤ (s[k + j]'hlt).toNat ∧ 57 < (s[k + j]'hlt).toNat) by omega) with h | h
          · go_wp2
            go_ret
            refine ⟨ret_i64 ?_, Below.refl _ _⟩
            unfold leadAt
            rw [if_pos (by simp; omega)]
            simp [HL.out]
          · go_wp2
            go_ret
            refine ⟨ret_i64 ?_, Below.refl _ _⟩
            unfold leadAt
            rw [if_pos (by simp; omega)]
            simp [HL.out]
      · go_wp2
        go_ret
        refine ⟨ret_i64 ?_, Below.refl _ _⟩
        unfold leadAt
        by_cases hk : k ≤ s.size
        · have hd := HD.out
          rw [List.take_of_length_le (by simp; omega)] at hd
          have := lead_all.2 hd
          rw [if_pos (by simp; omega)]
          simp at this ⊢
          omega
        · rw [if_neg (by simp; omega), h2 (by omega)]
  · have hn : a < 0 := by omega
    go_enter Tryd.func16, Tryd.ntmps16
    go_wp2
    go_loop [5] (fun n => n = .int .i64 0) (fun _ => 0)
    case atStart => rfl
    case round =>
      subst hrel
      go_wp2
      go_ret
      refine ⟨ret_i64 ?_, Below.refl _ _⟩
      unfold leadAt
      rw [if_neg (by omega)]
      rfl
/-- A text begins with a minus. -/
def neg (l : List UInt8) : Bool := decide (l.head? = some 45)
/-- A text without its minus. -/
def body (l : List UInt8) : List UInt8 := if neg l then l.tail else l
theorem neg_eq (s : ByteArray) : ((s.extract 0 1).toList == [45]) = neg s.data.toList := by
  rw [ByteArray.toList_eq, Bool.eq_iff_iff]
  unfold neg
  have e : (s.extract 0 1).data.toList = s.data.toList.take 1 := by simp [ByteArray.data_extract]
  rw [e]
  cases s.data.toList <;> simp
theorem neg_short {s : ByteArray} (h : ¬ 1 ≤ s.size) : neg s.data.toList = false := by
  rw [ba_nil (by omega)]
  rfl
theorem neg_size {s : ByteArray} (h : neg s.data.toList = true) : 1 ≤ s.size := by
  rcases Nat.lt_or_ge s.size 1 with h1 | h1
  · rw [neg_short (by omega)] at h
    cases h
  · exact h1
set_option maxRecDepth 100000 in
set_option maxHeartbeats 1600000 in
theorem hasp_any (s : ByteArray) (b : Bool) (w : World) (hs : s.size ≤ maxLen) (hb : neg s.data.toList = b) :
    Calls Tryd.prog 44 #[.string s, .string ⟨#[45]⟩] w fun e w' => e = .returned (.bool b) ∧ w = w' := by
  unfold maxLen at hs
  have H1 := neg_eq s
  have H2 := @neg_short s
  rw [hb] at H1 H2
  go_enter Tryd.func44, Tryd.ntmps44
  by_cases h : 1 ≤ s.size
  · clear H2
    go_wp2_with fail
    go_ret
    exact ⟨rfl, rfl⟩
  · have e := H2 h
    clear H1 H2
    go_wp2_with fail
    go_ret
    exact ⟨rfl, rfl⟩
theorem cut_data {s : ByteArray} : (s.extract 1 s.size).data.toList = s.data.toList.tail := by
  simp [ByteArray.data_extract]
  rw [List.take_of_length_le (by simp)]
set_option maxRecDepth 100000 in
set_option maxHeartbeats 1600000 in
theorem cutl_yes (s : ByteArray) (w : World) (hs : s.size ≤ maxLen) (hb : neg s.data.toList = true) :
    Calls Tryd.prog 34 #[.string s, .string ⟨#[45]⟩] w fun e w' => e = .returned (.tuple #[.string (s.extract 1 s.size), .bool true]) ∧ w = w' := by
  have h1 := neg_size hb
  unfold maxLen at hs
  go_enter Tryd.func34, Tryd.ntmps34
  go_wp2_with (go_at_call 44; refine (hasp_any s true _ hs hb).mono ?_; rintro e w1 ⟨rfl, rfl⟩)
  go_ret2
  exact ⟨rfl, rfl⟩
set_option maxRecDepth 100000 in
set_option maxHeartbeats 1600000 in
theorem cutl_no (s : ByteArray) (w : World) (hs : s.size ≤ maxLen) (hb : neg s.data.toList = false) :
    Calls Tryd.prog 34 #[.string s, .string ⟨#[45]⟩] w fun e w' => e = .returned (.tuple #[.string s, .bool false]) ∧ w = w' := by
  unfold maxLen at hs
  go_enter Tryd.func34, Tryd.ntmps34
  go_wp2_with (go_at_call 44; refine (hasp_any s false _ hs hb).mono ?_; rintro e w1 ⟨rfl, rfl⟩)
  go_ret2
  exact ⟨rfl, rfl⟩
/-- strings.CutPrefix at a minus. -/
theorem cutp_any (s : ByteArray) (w : World) (hs : s.size ≤ maxLen) :
    Calls Tryd.prog 22 #[.string s, .string ⟨#[45]⟩] w fun e w' => ∃ t : ByteArray, e = .returned (.tuple #[.string t, .bool (neg s.data.toList)]) ∧ t.data.toList = body s.data.toList ∧ w = w' := by
  unfold body
  cases hb : neg s.data.toList with
  | true =>
    go_enter Tryd.func22, Tryd.ntmps22
    go_wp2_with (go_at_call 34; refine (cutl_yes s _ hs hb).mono ?_; rintro e w1 ⟨rfl, rfl⟩)
    go_ret2
    exact ⟨_, rfl, by rw [cut_data], rfl⟩
  | false =>
    go_enter Tryd.func22, Tryd.ntmps22
    go_wp2_with (go_at_call 34; refine (cutl_no s _ hs hb).mono ?_; rintro e w1 ⟨rfl, rfl⟩)
    go_ret2
    exact ⟨_, rfl, rfl, rfl⟩
/-- Digits, behind a minus or not, are the text of a number. -/
def okNum (l : List UInt8) (n : Bool) : Bool := if l = [48] then !n else decide (l ≠ [] ∧ l.head? ≠ some 48 ∧ lead l = l.length)
set_option maxRecDepth 100000 in
set_option maxHeartbeats 1600000 in
theorem right_nought (s : ByteArray) (n : Bool) (w : World) (h : s.data.toList = [48]) :
    Calls Tryd.prog 23 #[.string s, .bool n] w fun e w' => e = .returned (.bool (!n)) ∧ w = w' := by
  have h1 : (s.toList == [48]) = true := by rw [ByteArray.toList_eq, h]; rfl
  clear h
  go_enter Tryd.func23, Tryd.ntmps23
  go_wp2
  go_ret
  exact ⟨rfl, rfl⟩
set_option maxRecDepth 100000 in
set_option maxHeartbeats 1600000 in
theorem right_other (s : ByteArray) (n : Bool) (w : World) (hs : s.size ≤ maxLen) (h : s.data.toList ≠ [48]) :
    Calls Tryd.prog 23 #[.string s, .bool n] w fun e w' => e = .returned (.bool (decide (s.data.toList ≠ [] ∧ s.data.toList.head? ≠ some 48 ∧ lead s.data.toList = s.data.toList.length))) ∧ Below w.heap.size w w' := by
  have h1 : (s.toList == [48]) = false := by rw [ByteArray.toList_eq]; simpa using h
  have hms := hs
  unfold maxLen at hs
  clear h
  by_cases h0 : 0 < s.size
  · have hne := ba_ne h0
    have h2 : (s.toList == []) = false := by rw [ByteArray.toList_eq]; simpa using hne
    have h2b : (s.toList != []) = true := by rw [ByteArray.toList_eq]; simpa using hne
    have h2c : s.toList.isEmpty = false := by rw [ByteArray.toList_eq]; simpa using hne
    have hh : s.data.toList.head? = some (s[0]'h0) := by rw [List.head?_eq_getElem?, ba_get h0]
    have HH := Lib.hid hh
    have HN := Lib.hid hne
    clear hh hne
    by_cases h3 : (s[0]'h0).toNat = 48
    · have h4 : ((s[0]'h0).toNat : Int) = 48 := by omega
      have e : decide (s.data.toList ≠ [] ∧ s.data.toList.head? ≠ some 48 ∧ lead s.data.toList = s.data.toList.length) = false := decide_eq_false (fun ⟨_, hb, _⟩ => hb (by rw [HH.out]; congr 1; exact UInt8.toNat_inj.1 h3))
      have HE := Lib.hid e
      clear e h3
      go_enter Tryd.func23, Tryd.ntmps23
      go_wp2_with fail
      go_ret
      exact ⟨by rw [HE.out]; rfl, Below.refl _ _⟩
    · have h4 : ¬ ((s[0]'h0).toNat : Int) = 48 := by omega
      have e : decide (s.data.toList ≠ [] ∧ s.data.toList.head? ≠ some 48 ∧ lead s.data.toList = s.data.toList.length) = decide (((lead s.data.toList : Nat) : Int) = ((s.size : Nat) : Int)) := by
        rw [decide_eq_decide]
        have hz : s.data.toList.length = s.size := by simp
        constructor
        · rintro ⟨_, _, hc⟩
          omega
        · intro hc
          refine ⟨HN.out, ?_, by omega⟩
          rw [HH.out]
          intro e
          apply h3
          rw [Option.some.inj e]
          rfl
      have HE := Lib.hid e
      clear e h3
      go_enter Tryd.func23, Tryd.ntmps23
      go_wp2_with (go_at_call 15; refine (digits_any s 0 _ hms (by omega) (by omega)).mono ?_; rintro e w1 ⟨rfl, b⟩; rw [show leadAt s.data.toList 0 = lead s.data.toList from by unfold leadAt; simp])
      go_ret
      have e3 : (((s[0]'h0).toNat : Int) != 48 && (((lead s.data.toList : Nat) : Int) == ((s.size : Nat) : Int))) = decide (s.data.toList ≠ [] ∧ s.data.toList.head? ≠ some 48 ∧ lead s.data.toList = s.data.toList.length) := by
        rw [HE.out, Bool.eq_iff_iff]
        simp
        omega
      exact ⟨ret_bool e3, b⟩
  · have e := ba_nil h0
    have h2 : (s.toList == []) = true := by rw [ByteArray.toList_eq, e]; rfl
    have h2b : (s.toList != []) = false := by rw [ByteArray.toList_eq, e]; rfl
    have h2c : s.toList.isEmpty = true := by rw [ByteArray.toList_eq, e]; rfl
    have HE := Lib.hid e
    clear e
    go_enter Tryd.func23, Tryd.ntmps23
    go_wp2_with fail
    go_ret
    exact ⟨by rw [HE.out]; simp, Below.refl _ _⟩
theorem dright_any (s : ByteArray) (n : Bool) (w : World) (hs : s.size ≤ maxLen) :
    Calls Tryd.prog 23 #[.string s, .bool n] w fun e w' => e = .returned (.bool (okNum s.data.toList n)) ∧ Below w.heap.size w w' := by
  unfold okNum
  by_cases h : s.data.toList = [48]
  · rw [if_pos h]
    exact (right_nought s n w h).mono fun e w' ⟨he, hw⟩ => ⟨he, hw ▸ Below.refl _ _⟩
  · rw [if_neg h]
    exact right_other s n w hs h
end Go.Proofs.YteekijmhghokkaaDoor
