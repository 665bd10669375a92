/-
  DecSigns holds of every input: the walk.
-/
import Derived.Test.YteekijmhghokkaaDoorDecLong
import Derived.Test.YteekijmhghokkaaDoorNumbA
import Derived.Test.YteekijmhghokkaaDoorNumbC
import Derived.IntWalk
import Derived.Deep.RegionWith

namespace Go.Proofs.YteekijmhghokkaaDoor
set_option linter.unusedVariables false
set_option linter.unusedSimpArgs false
open Go.RowKit Num Digs
set_option maxRecDepth 100000 in
set_option maxHeartbeats 6400000 in
theorem decsigns_great (g : Bool) (A : Option Addr) (c : Nat) (xs : List Nat) (d : Int) (w : World) (h : Us w A c xs) (hn : 30 < xs.length) :
    Calls Tryd.prog 6 #[.agg #[.bool g, .slice A xs.length c], .int .u8 d] w fun e w' => e = .returned (.bool true) ∧ Below w.heap.size w w' := by
  have s0 := Sb.start1 h (.bool g) (.slice A xs.length c) 24
  have hcap := h.cap
  clear h
  go_enter Tryd.func6, Tryd.ntmps6
  go_wp2_with (first
    | (have _t := s0; go_at_call 7; clear _t; go_loud (refine (alive3_any _).mono ?_; rintro e w1 ⟨rfl, b⟩; have s1 := s0.step b; clear b s0; obtain ⟨x1, x2⟩ := s1.held1)))
  go_ret
  exact ⟨rfl, s1.1.1⟩
set_option maxRecDepth 100000 in
set_option maxHeartbeats 6400000 in
theorem decsigns_wrong (g : Bool) (A : Option Addr) (c : Nat) (xs : List Nat) (d : Int) (w : World) (h : Us w A c xs) (hn : xs.length ≤ 30) (hr : rightI g xs = false) :
    Calls Tryd.prog 6 #[.agg #[.bool g, .slice A xs.length c], .int .u8 d] w fun e w' => e = .returned (.bool true) ∧ Below w.heap.size w w' := by
  have s0 := Sb.start1 h (.bool g) (.slice A xs.length c) 24
  have hcap := h.cap
  have HR := Lib.hid hr
  clear h hr
  go_enter Tryd.func6, Tryd.ntmps6
  go_wp2_with (first
    | (have _t := s0; go_at_call 7; clear _t; go_loud (refine (alive3_any _).mono ?_; rintro e w1 ⟨rfl, b⟩; have s1 := s0.step b; clear b s0; obtain ⟨x1, x2⟩ := s1.held1))
    | (have _t := s1; go_at_call 9; clear _t; go_loud (refine (rbright_any g _ _ xs _ (s1.get (by simp)) (by omega)).mono ?_; rintro e w3 ⟨rfl, b⟩; rw [HR.out]; have s3 := s1.step b; clear b s1 x1 x2; obtain ⟨x1, x2⟩ := s3.held1)))
  go_ret
  exact ⟨rfl, s3.1.1⟩
set_option maxRecDepth 100000 in
set_option maxHeartbeats 6400000 in
theorem decsigns_none (A : Option Addr) (c : Nat) (d : Int) (w : World) (h : Us w A c []) :
    Calls Tryd.prog 6 #[.agg #[.bool false, .slice A 0 c], .int .u8 d] w fun e w' => e = .returned (.bool true) ∧ Below w.heap.size w w' := by
  have s0 := Sb.start1 h (.bool false) (.slice A 0 c) 24
  have hcap := h.cap
  clear h
  go_enter Tryd.func6, Tryd.ntmps6
  go_wp2_with (first
    | (have _t := s0; go_at_call 7; clear _t; go_loud (refine (alive3_any _).mono ?_; rintro e w1 ⟨rfl, b⟩; have s1 := s0.step b; clear b s0; obtain ⟨x1, x2⟩ := s1.held1))
    | (have _t := s1; go_at_call 9; clear _t; go_loud (refine (rbright_any false _ _ [] _ (s1.get (by simp)) (by simp)).mono ?_; rintro e w3 ⟨rfl, b⟩; rw [show rightI false [] = true from rfl]; have s3 := s1.step b; clear b s1 x1 x2; obtain ⟨x1, x2⟩ := s3.held1)))
  have s4 := s3.drew
  clear s3
  go_region_held3 (fun w' => w'.cell? ⟨w.heap.size, 0, none⟩ = some (.bool false) ∧ w'.cell? ⟨w.heap.size, 1, none⟩ = some (.slice A 0 c))
    (exact Sb.held1 (by assumption))
    (first
    | (have _t := s4; go_at_call 12; clear _t; go_loud (refine (text_any false _ _ [] _ (s4.get (by simp)) (by simp)).mono ?_; rintro e w6 ⟨rfl, b⟩; rw [show text false (val []) = [48] from rfl]; have s5 := s4.step b; clear b s4))
    | (have _t := s5; go_at_call 17; clear _t; go_loud (refine (rminus_any false _ _ [] _ (s5.get (by simp)) (by simp)).mono ?_; intro e w5 h; obtain ⟨A5, c5, rfl, q, b⟩ := RetI.is h false [] ⟨by simp [Canon], by simp⟩ Dig.nil (by decide); clear h; have s6 := s5.call b q; clear q b s5; dsimp only [List.length_nil]))
    | (have _t := s6; go_at_call 12; clear _t; go_loud (refine (text_any false A5 c5 [] _ (s6.get (by simp)) (by simp)).mono ?_; rintro e w7 ⟨rfl, b⟩; rw [show text false (val []) = [48] from rfl]; have s7 := s6.step b; clear b s6)))
  obtain ⟨x1, x2⟩ := s7.held1
  go_wp2
  go_ret
  exact ⟨rfl, s7.1.1⟩
/-- A text behind a minus. -/
theorem text_minus (n : Nat) : (⟨(text true n).toArray⟩ : ByteArray) = ⟨#[45]⟩ ++ ⟨(digs n).toArray⟩ := (ba_of (by rw [ba_append]; rfl)).symm
/-- One more digit at the end. -/
theorem text_ten (s : Bool) {n k : Nat} (hn : 0 < n) (hk : k < 10) : text s (n * 10 + k) = text s n ++ [dig k] := by
  unfold text
  rw [digs_ten hn hk]
  cases s <;> rfl
theorem conv_at {z : Int} {x : UInt8} (hz : z = (x.toNat : Int)) {W : World} {b : Nat} (hb : W.cell? ⟨b, 0, none⟩ = some (.int .u8 z)) : (convert 36 9 (.slice (some ⟨b, 0, none⟩) 1 1)).run Tryd.prog W = .ok (.string ⟨#[x]⟩) W := by
  subst hz
  refine run_convert_bytes_back (P := Tryd.prog) W _ _ 5 ⟨b, 0, none⟩ 1 [x] Tryd.underlying36 Tryd.underlying5 Tryd.underlying9 (fun j hj => ?_)
  simp only [List.length_cons, List.length_nil] at hj
  obtain rfl : j = 0 := by omega
  rw [add_plain']
  exact hb
theorem bcell {W w1 : World} (hb : Below W.heap.size W w1) : (∀ b o, b < W.heap.size → w1.cell? ⟨b, o, none⟩ = W.cell? ⟨b, o, none⟩) ∧ (∀ b o, b < W.heap.size → w1.frozen? ⟨b, o, none⟩ = W.frozen? ⟨b, o, none⟩) :=
  ⟨fun b o h => hb.cell (p := ⟨b, o, none⟩) h, fun b o h => hb.frozen (p := ⟨b, o, none⟩) h⟩
theorem u8_in {z : Int} (h0 : 0 ≤ z) (h1 : z < 256) : IntKind.u8.wrap z = z := by
  unfold IntKind.wrap
  simp [IntKind.signed, IntKind.bits]
  omega
/-- The sum so far. -/
def TenRel (X K : Int) (w : World) (b8 : Nat) (g : Bool) (A : Option Addr) (c : Nat) (xs : List Nat) (i : Nat) (gt : Bool) (At : Option Addr) (ct : Nat) (rt : List Nat) (wr : World) : Prop :=
  Us wr At ct rt ∧ CanonI gt rt ∧ ival gt rt = K + i * X ∧ Us wr A c xs ∧ Box wr w.heap.size (.bool g) (.slice A xs.length c) ∧ Box wr b8 (.bool gt) (.slice At rt.length ct) ∧ Below w.heap.size w wr ∧ w.heap.size < b8
theorem TenRel.few {X K : Int} {w wr : World} {b8 c ct i : Nat} {g gt : Bool} {A At : Option Addr} {xs rt : List Nat} (h : TenRel X K w b8 g A c xs i gt At ct rt wr) (hx : X = ival g xs) (hl : xs.length ≤ 30) (hi : i ≤ 10) (hk : K.natAbs ≤ 9) : rt.length ≤ 31 := by
  obtain ⟨h1, h2, h3, h4, _⟩ := h
  refine len_ival h2 h3 31 ?_
  have h5 := abs_of_len (s := g) h4.1 hl
  rw [← hx] at h5
  rw [Nat.pow_succ]
  have h6 : ((i : Int) * X).natAbs = i * X.natAbs := by rw [Int.natAbs_mul]; rfl
  have h7 : i * X.natAbs ≤ 10 * X.natAbs := Nat.mul_le_mul_right _ hi
  have h8 := Int.natAbs_add_le K ((i : Int) * X)
  omega
theorem TenRel.put {X K : Int} {w w1 : World} {b8 c c1 c0 n0 i : Nat} {g g1 s0 : Bool} {A A1 A0 : Option Addr} {xs r1 : List Nat} (q : Us w1 A1 c1 r1) (k : CanonI g1 r1) (v : ival g1 r1 = K + i * X) (u : Us w1 A c xs)
    (bx : Box w1 w.heap.size (.bool g) (.slice A xs.length c)) (hb : Box w1 b8 (.bool s0) (.slice A0 n0 c0)) (b : Below w.heap.size w w1) (h8 : w.heap.size < b8) :
    TenRel X K w b8 g A c xs i g1 A1 c1 r1 ((w1.setCell ⟨b8, 0, none⟩ (.bool g1)).setCell ⟨b8, 1, none⟩ (.slice A1 r1.length c1)) :=
  ⟨q.boxed hb _ _, k, v, u.boxed hb _ _, (bx.far (by omega) _).far (by omega) _, hb.set _ _, (b.setCell (p := ⟨b8, 0, none⟩) (by simp; omega) _).setCell (p := ⟨b8, 1, none⟩) (by simp; omega) _, h8⟩
theorem TenRel.next {X K : Int} {w wr w1 : World} {b8 c ct c1 i : Nat} {g gt g1 : Bool} {A At A1 : Option Addr} {xs rt r1 : List Nat} (h : TenRel X K w b8 g A c xs i gt At ct rt wr) (hx : X = ival g xs) (q : Us w1 A1 c1 r1) (k : CanonI g1 r1) (v : ival g1 r1 = ival gt rt + ival g xs) (b : Below wr.heap.size wr w1) :
    TenRel X K w b8 g A c xs (i + 1) g1 A1 c1 r1 ((w1.setCell ⟨b8, 0, none⟩ (.bool g1)).setCell ⟨b8, 1, none⟩ (.slice A1 r1.length c1)) := by
  obtain ⟨h1, h2, h3, h4, h5, h6, h7, h8⟩ := h
  have hb := h6.below b
  refine ⟨q.boxed hb _ _, k, ?_, (h4.below b).boxed hb _ _, ((h5.below b).far (by omega) _).far (by omega) _, hb.set _ _, ((h7.trans (b.mono h7.size)).setCell (p := ⟨b8, 0, none⟩) (by simp; omega) _).setCell (p := ⟨b8, 1, none⟩) (by simp; omega) _, h8⟩
  rw [v, h3, ← hx, Int.natCast_add, Int.add_mul]
  simp
  omega
theorem TenRel.last_false {w wr : World} {b8 c ct k : Nat} {gt : Bool} {A At : Option Addr} {xs rt : List Nat} (h : TenRel (ival false xs) (k : Int) w b8 false A c xs 10 gt At ct rt wr) (hn : 0 < val xs) (hk : k < 10) :
    (⟨(text gt (val rt)).toArray⟩ : ByteArray) = ⟨(digs (val xs)).toArray⟩ ++ ⟨#[dig k]⟩ := by
  obtain ⟨_, _, h3, _⟩ := h
  have e : gt = false ∧ val rt = val xs * 10 + k := by
    unfold ival at h3
    cases gt
    · simp at h3; exact ⟨rfl, by omega⟩
    · simp at h3; omega
  rw [e.1, e.2, text_ten false hn hk]
  exact (ba_of (by rw [ba_append]; rfl)).symm
theorem TenRel.last_true {w wr : World} {b8 c ct k : Nat} {gt : Bool} {A At : Option Addr} {xs rt : List Nat} (h : TenRel (ival true xs) (-(k : Int)) w b8 true A c xs 10 gt At ct rt wr) (hn : 0 < val xs) (hk : k < 10) :
    (⟨(text gt (val rt)).toArray⟩ : ByteArray) = ⟨(text true (val xs)).toArray⟩ ++ ⟨#[dig k]⟩ := by
  obtain ⟨_, _, h3, _⟩ := h
  have e : gt = true ∧ val rt = val xs * 10 + k := by
    unfold ival at h3
    cases gt
    · simp at h3; omega
    · simp at h3; exact ⟨rfl, by omega⟩
  rw [e.1, e.2, text_ten true hn hk]
  exact (ba_of (by rw [ba_append])).symm
set_option maxRecDepth 100000 in
set_option maxHeartbeats 6400000 in
theorem decsigns_false (A : Option Addr) (c : Nat) (xs : List Nat) (d : Int) (w : World) (h : Us w A c xs) (hn : xs.length ≤ 30) (h0 : 0 < xs.length) (hr : rightI false xs = true) (d0 : 0 ≤ d) (d1 : d ≤ 255) :
    Calls Tryd.prog 6 #[.agg #[.bool false, .slice A xs.length c], .int .u8 d] w fun e w' => e = .returned (.bool true) ∧ Below w.heap.size w w' := by
  have s0 := Sb.start1 h (.bool false) (.slice A xs.length c) 24
  have hcap := h.cap
  have hkc := right_canon hr
  have hvp : 0 < val xs := by
    rcases Nat.eq_zero_or_pos (val xs) with e | e
    · rw [canon_zero hkc.1 e] at h0
      simp at h0
    · exact e
  have HR := Lib.hid (And.intro hr (And.intro hkc (And.intro h.1 hvp)))
  obtain ⟨D, hD⟩ : ∃ D : ByteArray, D = ⟨(digs (val xs)).toArray⟩ := ⟨_, rfl⟩
  have hDs : D.size ≤ 400 := by rw [← ba_len, hD]; exact digs_few h.1 (by omega)
  have HD := Lib.hid hD
  have HT := Lib.hid (show (⟨(text true (val xs)).toArray⟩ : ByteArray) = ⟨#[45]⟩ ++ D by rw [hD]; exact text_minus _)
  have HF := Lib.hid (show (⟨(text false (val xs)).toArray⟩ : ByteArray) = D by rw [hD]; rfl)
  have hz0 : (((xs.length : Nat) : Int) == 0) = false := by rw [beq_eq_false_iff_ne]; omega
  obtain ⟨k, hk⟩ : ∃ k : Nat, (k : Int) = d % 10 := ⟨(d % 10).toNat, by omega⟩
  have hkl : k < 10 := by omega
  have HK := Lib.hid hk
  clear h hr hkc hvp hD hk
  go_enter Tryd.func6, Tryd.ntmps6
  go_wp2_with (first
    | (have _t := s0; go_at_call 7; clear _t; go_loud (refine (alive3_any _).mono ?_; rintro e w1 ⟨rfl, b⟩; have s1 := s0.step b; clear b s0; obtain ⟨x1, x2⟩ := s1.held1))
    | (have _t := s1; go_at_call 9; clear _t; go_loud (refine (rbright_any false _ _ xs _ (s1.get (by simp)) (by omega)).mono ?_; rintro e w3 ⟨rfl, b⟩; rw [HR.out.1]; have s3 := s1.step b; clear b s1 x1 x2; obtain ⟨x1, x2⟩ := s3.held1)))
  have s4 := s3.drew
  clear s3
  go_region_held3 (fun w' => w'.cell? ⟨w.heap.size, 0, none⟩ = some (.bool false) ∧ w'.cell? ⟨w.heap.size, 1, none⟩ = some (.slice A xs.length c))
    (exact Sb.held1 (by assumption))
    (first
    | (have _t := s4; go_at_call 12; clear _t; go_loud (refine (text_any false _ _ xs _ (s4.get (by simp)) (by omega)).mono ?_; rintro e w6 ⟨rfl, b⟩; rw [HF.out]; have s5 := s4.step b; clear b s4))
    | (have _t := s5; go_at_call 17; clear _t; go_loud (refine (rminus_any false _ _ xs _ (s5.get (by simp)) (by omega)).mono ?_; intro e w5 h; obtain ⟨A5, c5, rfl, q, b⟩ := RetI.is h true xs ⟨HR.out.2.1.1, fun _ => List.length_pos_iff.1 h0⟩ HR.out.2.2.1 (by unfold ival; simp); clear h; have s6 := s5.call b q; clear q b s5))
    | (have _t := s6; go_at_call 12; clear _t; go_loud (refine (text_any true A5 c5 xs _ (s6.get (by simp)) (by omega)).mono ?_; rintro e w7 ⟨rfl, b⟩; rw [HT.out]; have s7 := s6.step b; clear b s6)))
  obtain ⟨x1, x2⟩ := s7.held1
  go_wp2_with (first
    | (have _t := s7; go_at_call 18; clear _t; rw [← HK.out]; go_loud (refine (rbof_any (k : Int) _ (by omega) (by omega)).mono ?_; rintro e w8 ⟨A8, c8, g8, r8, rfl, q8, k8, v8, b⟩; have hlt8 := Nat.lt_of_lt_of_le (s7.box (g := w.heap.size) (x := .bool false) (y := .slice A xs.length c) (by simp)).2.2.2.2 b.size; have s8 := (s7.call b q8).more (.bool g8) (.slice A8 r8.length c8) 24; have HP := Lib.hid (And.intro k8 v8); clear b s7 x1 x2 q8 k8 v8; obtain ⟨y1, y2, x1, x2⟩ := s8.held2)))
  have R0 := Lib.hid (show TenRel (ival false xs) (k : Int) w w8.heap.size false A c xs 0 g8 A8 c8 r8 _ from ⟨s8.get (by simp), HP.out.1, by rw [HP.out.2]; simp, s8.get (by simp), s8.box (by simp), s8.box (by simp), s8.1.1, hlt8⟩)
  clear s8 x1 x2 y1 y2 hlt8
  generalize w8.heap.size = b8 at R0 ⊢
  go_loopw [9] (fun iv wr => ∃ (i : Nat) (At : Option Addr) (ct : Nat) (gt : Bool) (rt : List Nat), i ≤ 10 ∧ iv = .int .i64 i ∧ TenRel (ival false xs) ((k : Int)) w b8 false A c xs i gt At ct rt wr) (fun iv _ => 10 - (intOf iv).toNat)
  case atStart => exact ⟨0, A8, c8, g8, r8, by omega, rfl, R0.out⟩
  case round =>
    obtain ⟨i, At, ct, gt, rt, hi, rfl, hR2⟩ := hrel
    have R := Lib.hid hR2
    have hrl := hR2.few rfl hn hi (by omega)
    have hcapt := hR2.1.cap
    obtain ⟨x1, x2, _, _, _⟩ := hR2.2.2.2.2.1
    obtain ⟨y1, y2, y3, y4, _⟩ := hR2.2.2.2.2.2.1
    clear hR2 R0
    by_cases hlt : i < 10
    · go_wp2_with (go_at_call 19; go_loud (refine (rbadd_any gt false _ _ _ _ rt xs _ R.out.1 R.out.2.2.2.1 (by omega) (by omega)).mono ?_; rintro e w9 ⟨A9, c9, g9, r9, rfl, q9, k9, v9, b⟩; clear x1 x2 y1 y2 y3 y4; have RN := Lib.hid (R.out.next rfl q9 k9 v9 b); obtain ⟨x1, x2, _, _, _⟩ := R.out.2.2.2.2.1.below b; obtain ⟨y1, y2, y3, y4, _⟩ := R.out.2.2.2.2.2.1.below b; clear q9 k9 v9 b))
      go_roundw
      case rel => exact ⟨i + 1, A9, c9, g9, r9, by omega, by go_num, RN.out⟩
      case measure => simp [intOf]; omega
    · obtain rfl : i = 10 := by omega
      have hd1 : IntKind.i64.wrap (48 + (k : Int)) = 48 + (k : Int) := IntWalk.i64_in _ (by omega)
      have hd2 : IntKind.u8.wrap (48 + (k : Int)) = 48 + (k : Int) := u8_in (by omega) (by omega)
      have hE := Lib.hid (show (⟨(text gt (val rt)).toArray⟩ : ByteArray) = D ++ ⟨#[dig k]⟩ by rw [HD.out]; exact TenRel.last_false R.out HR.out.2.2.2 hkl)
      have hsz : (⟨#[dig k]⟩ : ByteArray).size = 1 := rfl
      have T0 : Sb w wr [(At, ct, rt)] [(b8, .bool gt, .slice At rt.length ct)] := ⟨⟨R.out.2.2.2.2.2.2.1, fun u hu => by simp only [List.mem_singleton] at hu; subst hu; exact R.out.1⟩, fun u hu => by simp only [List.mem_singleton] at hu; subst hu; exact R.out.2.2.2.2.2.1⟩
      have T1 := T0.drew
      clear T0 x1 x2
      have hcv : ∀ (W : World) (b : Nat), W.cell? ⟨b, 0, none⟩ = some (.int .u8 (48 + (k : Int))) → (convert 36 9 (.slice (some ⟨b, 0, none⟩) 1 1)).run Tryd.prog W = .ok (.string ⟨#[dig k]⟩) W := fun W b hb => conv_at (x := dig k) (by rw [dig_nat hkl]; omega) hb
      go_wp2_with fail
      go_region_with
        (first
        | (have _t := T1; go_at_call 12; clear _t; (refine (text_any gt _ _ rt _ (T1.get (by simp)) (by omega)).mono ?_); rintro e w9 ⟨rfl, b⟩; rw [hE.out]; have T2 := T1.step b; obtain ⟨hbc, hbf⟩ := bcell b; obtain ⟨y1, y2⟩ := T2.held1; clear b T1)
        | (have _t := T1; go_at_call 12; clear _t; (refine (text_any gt _ _ rt _ ((T1.step ((Below.refl _ _).alloc (Nat.le_refl _) _)).get (by simp)) (by omega)).mono ?_); rintro e w9 ⟨rfl, b⟩; rw [hE.out]; have T2 := (T1.step ((Below.refl _ _).alloc (Nat.le_refl _) _)).step b; obtain ⟨hbc, hbf⟩ := bcell b; obtain ⟨y1, y2⟩ := T2.held1; clear b T1))
      all_goals
        go_wp2
        go_ret
        refine ⟨rfl, ?_⟩
        first
          | exact T2.1.1
          | exact T2.1.1.alloc T2.1.1.size _
          | exact Below.drew' T2.1.1
          | exact Below.drew' (T2.1.1.alloc T2.1.1.size _)
set_option maxRecDepth 100000 in
set_option maxHeartbeats 6400000 in
theorem decsigns_true (A : Option Addr) (c : Nat) (xs : List Nat) (d : Int) (w : World) (h : Us w A c xs) (hn : xs.length ≤ 30) (h0 : 0 < xs.length) (hr : rightI true xs = true) (d0 : 0 ≤ d) (d1 : d ≤ 255) :
    Calls Tryd.prog 6 #[.agg #[.bool true, .slice A xs.length c], .int .u8 d] w fun e w' => e = .returned (.bool true) ∧ Below w.heap.size w w' := by
  have s0 := Sb.start1 h (.bool true) (.slice A xs.length c) 24
  have hcap := h.cap
  have hkc := right_canon hr
  have hvp : 0 < val xs := by
    rcases Nat.eq_zero_or_pos (val xs) with e | e
    · rw [canon_zero hkc.1 e] at h0
      simp at h0
    · exact e
  have HR := Lib.hid (And.intro hr (And.intro hkc (And.intro h.1 hvp)))
  obtain ⟨D, hD⟩ : ∃ D : ByteArray, D = ⟨(digs (val xs)).toArray⟩ := ⟨_, rfl⟩
  have hDs : D.size ≤ 400 := by rw [← ba_len, hD]; exact digs_few h.1 (by omega)
  have HD := Lib.hid hD
  have HT := Lib.hid (show (⟨(text true (val xs)).toArray⟩ : ByteArray) = ⟨#[45]⟩ ++ D by rw [hD]; exact text_minus _)
  have HF := Lib.hid (show (⟨(text false (val xs)).toArray⟩ : ByteArray) = D by rw [hD]; rfl)
  have hz0 : (((xs.length : Nat) : Int) == 0) = false := by rw [beq_eq_false_iff_ne]; omega
  obtain ⟨k, hk⟩ : ∃ k : Nat, (k : Int) = d % 10 := ⟨(d % 10).toNat, by omega⟩
  have hkl : k < 10 := by omega
  have HK := Lib.hid hk
  clear h hr hkc hvp hD hk
  go_enter Tryd.func6, Tryd.ntmps6
  go_wp2_with (first
    | (have _t := s0; go_at_call 7; clear _t; go_loud (refine (alive3_any _).mono ?_; rintro e w1 ⟨rfl, b⟩; have s1 := s0.step b; clear b s0; obtain ⟨x1, x2⟩ := s1.held1))
    | (have _t := s1; go_at_call 9; clear _t; go_loud (refine (rbright_any true _ _ xs _ (s1.get (by simp)) (by omega)).mono ?_; rintro e w3 ⟨rfl, b⟩; rw [HR.out.1]; have s3 := s1.step b; clear b s1 x1 x2; obtain ⟨x1, x2⟩ := s3.held1)))
  have s4 := s3.drew
  clear s3
  go_region_held3 (fun w' => w'.cell? ⟨w.heap.size, 0, none⟩ = some (.bool true) ∧ w'.cell? ⟨w.heap.size, 1, none⟩ = some (.slice A xs.length c))
    (exact Sb.held1 (by assumption))
    (first
    | (have _t := s4; go_at_call 12; clear _t; go_loud (refine (text_any true _ _ xs _ (s4.get (by simp)) (by omega)).mono ?_; rintro e w6 ⟨rfl, b⟩; rw [HT.out]; have s5 := s4.step b; clear b s4))
    | (have _t := s5; go_at_call 17; clear _t; go_loud (refine (rminus_any true _ _ xs _ (s5.get (by simp)) (by omega)).mono ?_; intro e w5 h; obtain ⟨A5, c5, rfl, q, b⟩ := RetI.is h false xs ⟨HR.out.2.1.1, fun _ => List.length_pos_iff.1 h0⟩ HR.out.2.2.1 (by unfold ival; simp); clear h; have s6 := s5.call b q; clear q b s5))
    | (have _t := s6; go_at_call 12; clear _t; go_loud (refine (text_any false A5 c5 xs _ (s6.get (by simp)) (by omega)).mono ?_; rintro e w7 ⟨rfl, b⟩; rw [HF.out]; have s7 := s6.step b; clear b s6)))
  obtain ⟨x1, x2⟩ := s7.held1
  go_wp2_with (first
    | (have _t := s7; go_at_call 18; clear _t; rw [← HK.out]; go_loud (refine (rbof_any (k : Int) _ (by omega) (by omega)).mono ?_; rintro e w8 ⟨A8, c8, g8, r8, rfl, q8, k8, v8, b⟩; have hlt8 := Nat.lt_of_lt_of_le (s7.box (g := w.heap.size) (x := .bool true) (y := .slice A xs.length c) (by simp)).2.2.2.2 b.size; have s8 := (s7.call b q8).more (.bool g8) (.slice A8 r8.length c8) 24; have HP := Lib.hid (And.intro k8 v8); clear b s7 x1 x2 q8 k8 v8; obtain ⟨y1, y2, x1, x2⟩ := s8.held2))
    | (have _t := s8; go_at_call 18; clear _t; (try rw [← HK.out]); go_loud (refine (rbof_any (-(k : Int)) _ (by omega) (by omega)).mono ?_; rintro e w9 ⟨A9, c9, g9, r9, rfl, q9, k9, v9, b⟩; have s9 := s8.call b q9; have HP9 := Lib.hid (And.intro k9 v9); clear b s8 x1 x2 y1 y2 q9 k9 v9; obtain ⟨y1, y2, x1, x2⟩ := s9.held2; obtain ⟨_, _, f1, f2, _⟩ := s9.box (g := w8.heap.size) (x := .bool g8) (y := .slice A8 r8.length c8) (by simp))))
  have R0 := Lib.hid (TenRel.put (X := ival true xs) (K := -(k : Int)) (i := 0) (s9.get (A := A9) (c := c9) (xs := r9) (by simp)) HP9.out.1 (by rw [HP9.out.2]; simp) (s9.get (A := A) (c := c) (xs := xs) (by simp)) (s9.box (g := w.heap.size) (x := .bool true) (y := .slice A xs.length c) (by simp)) (s9.box (g := w8.heap.size) (x := .bool g8) (y := .slice A8 r8.length c8) (by simp)) s9.1.1 hlt8)
  clear s9 x1 x2 y1 y2 f1 f2 hlt8
  generalize w8.heap.size = b8 at R0 ⊢
  go_loopw [9] (fun iv wr => ∃ (i : Nat) (At : Option Addr) (ct : Nat) (gt : Bool) (rt : List Nat), i ≤ 10 ∧ iv = .int .i64 i ∧ TenRel (ival true xs) (-(k : Int)) w b8 true A c xs i gt At ct rt wr) (fun iv _ => 10 - (intOf iv).toNat)
  case atStart => exact ⟨0, A9, c9, g9, r9, by omega, rfl, R0.out⟩
  case round =>
    obtain ⟨i, At, ct, gt, rt, hi, rfl, hR2⟩ := hrel
    have R := Lib.hid hR2
    have hrl := hR2.few rfl hn hi (by omega)
    have hcapt := hR2.1.cap
    obtain ⟨x1, x2, _, _, _⟩ := hR2.2.2.2.2.1
    obtain ⟨y1, y2, y3, y4, _⟩ := hR2.2.2.2.2.2.1
    clear hR2 R0
    by_cases hlt : i < 10
    · go_wp2_with (go_at_call 19; go_loud (refine (rbadd_any gt true _ _ _ _ rt xs _ R.out.1 R.out.2.2.2.1 (by omega) (by omega)).mono ?_; rintro e w9 ⟨A9, c9, g9, r9, rfl, q9, k9, v9, b⟩; clear x1 x2 y1 y2 y3 y4; have RN := Lib.hid (R.out.next rfl q9 k9 v9 b); obtain ⟨x1, x2, _, _, _⟩ := R.out.2.2.2.2.1.below b; obtain ⟨y1, y2, y3, y4, _⟩ := R.out.2.2.2.2.2.1.below b; clear q9 k9 v9 b))
      go_roundw
      case rel => exact ⟨i + 1, A9, c9, g9, r9, by omega, by go_num, RN.out⟩
      case measure => simp [intOf]; omega
    · obtain rfl : i = 10 := by omega
      have hd1 : IntKind.i64.wrap (48 + (k : Int)) = 48 + (k : Int) := IntWalk.i64_in _ (by omega)
      have hd2 : IntKind.u8.wrap (48 + (k : Int)) = 48 + (k : Int) := u8_in (by omega) (by omega)
      have hE := Lib.hid (show (⟨(text gt (val rt)).toArray⟩ : ByteArray) = (⟨#[45]⟩ ++ D) ++ ⟨#[dig k]⟩ by rw [← HT.out]; exact TenRel.last_true R.out HR.out.2.2.2 hkl)
      have hsz : (⟨#[dig k]⟩ : ByteArray).size = 1 := rfl
      have T0 : Sb w wr [(At, ct, rt)] [(b8, .bool gt, .slice At rt.length ct)] := ⟨⟨R.out.2.2.2.2.2.2.1, fun u hu => by simp only [List.mem_singleton] at hu; subst hu; exact R.out.1⟩, fun u hu => by simp only [List.mem_singleton] at hu; subst hu; exact R.out.2.2.2.2.2.1⟩
      have T1 := T0.drew
      clear T0 x1 x2
      have hcv : ∀ (W : World) (b : Nat), W.cell? ⟨b, 0, none⟩ = some (.int .u8 (48 + (k : Int))) → (convert 36 9 (.slice (some ⟨b, 0, none⟩) 1 1)).run Tryd.prog W = .ok (.string ⟨#[dig k]⟩) W := fun W b hb => conv_at (x := dig k) (by rw [dig_nat hkl]; omega) hb
      go_wp2_with fail
      go_region_with
        (first
        | (have _t := T1; go_at_call 12; clear _t; (refine (text_any gt _ _ rt _ (T1.get (by simp)) (by omega)).mono ?_); rintro e w9 ⟨rfl, b⟩; rw [hE.out]; have T2 := T1.step b; obtain ⟨hbc, hbf⟩ := bcell b; obtain ⟨y1, y2⟩ := T2.held1; clear b T1)
        | (have _t := T1; go_at_call 12; clear _t; (refine (text_any gt _ _ rt _ ((T1.step ((Below.refl _ _).alloc (Nat.le_refl _) _)).get (by simp)) (by omega)).mono ?_); rintro e w9 ⟨rfl, b⟩; rw [hE.out]; have T2 := (T1.step ((Below.refl _ _).alloc (Nat.le_refl _) _)).step b; obtain ⟨hbc, hbf⟩ := bcell b; obtain ⟨y1, y2⟩ := T2.held1; clear b T1))
      all_goals
        go_wp2
        go_ret
        refine ⟨rfl, ?_⟩
        first
          | exact T2.1.1
          | exact T2.1.1.alloc T2.1.1.size _
          | exact Below.drew' T2.1.1
          | exact Below.drew' (T2.1.1.alloc T2.1.1.size _)
theorem decsigns_any (g : Bool) (A : Option Addr) (c : Nat) (xs : List Nat) (d : Int) (w : World) (h : Us w A c xs) (d0 : 0 ≤ d) (d1 : d ≤ 255) :
    Calls Tryd.prog 6 #[.agg #[.bool g, .slice A xs.length c], .int .u8 d] w fun e w' => e = .returned (.bool true) ∧ Below w.heap.size w w' := by
  rcases Nat.lt_or_ge 30 xs.length with hn | hn
  · exact decsigns_great g A c xs d w h hn
  · cases hr : rightI g xs with
    | false => exact decsigns_wrong g A c xs d w h hn hr
    | true =>
      cases xs with
      | nil =>
        cases g
        · exact decsigns_none A c d w h
        · simp [rightI] at hr
      | cons x r =>
        cases g
        · exact decsigns_false A c _ d w h hn (by simp) hr d0 d1
        · exact decsigns_true A c _ d w h hn (by simp) hr d0 d1
end Go.Proofs.YteekijmhghokkaaDoor
