/-
  limb.Add: a sum.
-/
import Derived.Test.YthkeehfoefjnfaaTrim
import Derived.Test.YthkeehfoefjnfaaOwn
import Derived.Test.YthkeehfoefjnfaaSmall
import Derived.Test.YthkeehfoefjnfaaBits
import Derived.Deep.DeepCutAuto
namespace Go.Proofs.Ythkeehfoefjnfaa
set_option linter.unusedVariables false
set_option linter.unusedSimpArgs false
open Go.RowKit Num

theorem at_val {A : Option Addr} {c n : Nat} {xs : List Nat} {w : World} (h : Us w A c xs) (hn : xs.length = n) (hl : n ≤ 1000000) (k : Nat) {y : Nat} (hy : y = xs[k]?.getD 0) :
    Calls Try.prog 59 #[.slice A n c, .int .i64 (k : Int)] w fun e w' => e = .returned (.int .u32 (y : Int)) ∧ w = w' := by
  subst hn
  have := at_any A c xs (k : Int) w h hl (by omega)
  rwa [Int.toNat_natCast, ← hy] at this
/-- The first k limbs' number; behind the last one there are noughts. -/
theorem val_take_getD {xs : List Nat} (k : Nat) : val (xs.take (k + 1)) = val (xs.take k) + 4294967296 ^ k * xs[k]?.getD 0 := by
  rcases Nat.lt_or_ge k xs.length with h | h
  · exact val_take_succ h
  · rw [List.take_of_length_le (by omega), List.take_of_length_le (by omega), List.getElem?_eq_none h]
    simp

def AddRel (n : Nat) (xs ys : List Nat) (w : World) (g k cy : Nat) (rs : List Nat) (wr : World) : Prop :=
  cy ≤ 1 ∧ OwnU wr w.heap.size g (n + 1) rs ∧ val (rs.take k) + 4294967296 ^ k * cy = val (xs.take k) + val (ys.take k) ∧ Below w.heap.size w wr
theorem AddRel.next {n k cy g : Nat} {xs ys rs : List Nat} {w wr : World} (h : AddRel n xs ys w g k cy rs wr) (hn : xs.length = n) (hk : k < n) (hd : Dig xs) (hd2 : Dig ys) {x y : Nat} (hx : x = xs[k]?.getD 0) (hy : y = ys[k]?.getD 0) :
    AddRel n xs ys w g (k + 1) (addCar x y cy) (rs.set k (addDig x y cy)) (wr.setCell ⟨g, k, none⟩ (.int .u32 ((addDig x y cy : Nat) : Int))) := by
  obtain ⟨h1, h2, h3, h4⟩ := h
  have hl := h2.2.1
  have hxl : x < 4294967296 := by rw [hx]; exact hd.getD k
  have hyl : y < 4294967296 := by rw [hy]; exact hd2.getD k
  refine ⟨addCar_le hxl hyl h1, h2.set k (addDig_lt _ _ _), ?_, h4.setCell (p := ⟨g, k, none⟩) h2.base _⟩
  have e := add_eq x y cy
  rw [val_take_set _ (by omega), val_take_getD k, val_take_getD k, ← hx, ← hy, Nat.pow_succ]
  generalize 4294967296 ^ k = p at *
  have e2 : p * (addDig x y cy) + p * (4294967296 * addCar x y cy) = p * x + p * y + p * cy := by rw [← Nat.mul_add, e, Nat.mul_add, Nat.mul_add]
  rw [Nat.mul_assoc]
  omega
theorem AddRel.last {n cy g : Nat} {xs ys rs : List Nat} {w wr : World} (h : AddRel n xs ys w g n cy rs wr) (hn : xs.length = n) (hm : ys.length ≤ n) :
    OwnU (wr.setCell ⟨g, n, none⟩ (.int .u32 (cy : Int))) w.heap.size g (n + 1) (rs.set n cy) ∧ val (rs.set n cy) = val xs + val ys ∧ Below w.heap.size w (wr.setCell ⟨g, n, none⟩ (.int .u32 (cy : Int))) := by
  obtain ⟨h1, h2, h3, h4⟩ := h
  have h5 := h2.set n (u := cy) (by omega)
  refine ⟨h5, ?_, h4.setCell (p := ⟨g, n, none⟩) h2.base _⟩
  have e := val_take_set (rs := rs) (k := n) cy (by have := h2.2.1; omega)
  rw [take_all (n := n + 1) (by simpa using h2.2.1)] at e
  rw [e, h3, take_all hn, List.take_of_length_le hm]

/-- Behind 'if len(a) < len(b) { a, b = b, a }'. -/
def AddCut (s : Nat) (w : World) (s0 s1 : Value) (wx : World) : Prop :=
  w = wx ∧ ∃ A c xs B d ys, s0 = .slice A xs.length c ∧ s1 = .slice B ys.length d ∧ Us w A c xs ∧ Us w B d ys ∧ ys.length ≤ xs.length ∧ xs.length < 1000000 ∧ val xs + val ys = s

set_option maxRecDepth 100000 in
set_option maxHeartbeats 1600000 in
theorem add_any (A B : Option Addr) (c d : Nat) (xs ys : List Nat) (w : World) (h : Us w A c xs) (k : Us w B d ys) (hx : xs.length < 1000000) (hy : ys.length < 1000000) :
    Calls Try.prog 14 #[.slice A xs.length c, .slice B ys.length d] w (RetU (val xs + val ys) w) := by
  obtain ⟨i0, hi, hz0, hz1, hz2⟩ := info_parts Try.infoU
  have H1 := Lib.hid h
  have H2 := Lib.hid k
  have HI := Lib.hid (And.intro hi (And.intro hz0 (And.intro hz1 hz2)))
  clear h k hi hz0 hz1 hz2
  obtain ⟨s, hs⟩ : ∃ s, s = val xs + val ys := ⟨_, rfl⟩
  rw [← hs]
  have HS := Lib.hid hs
  clear hs
  go_enter Try.func14, Try.ntmps14
  go_upto_if 13 with fail
  go_cut [0, 1] (fun s0 s1 wx => AddCut s w s0 s1 wx)
  case first =>
    by_cases hlt : xs.length < ys.length
    · go_wp2
      go_meet
      exact ⟨rfl, B, d, ys, A, c, xs, rfl, rfl, H2.out, H1.out, by omega, hy, by rw [HS.out]; omega⟩
    · go_wp2
      go_meet
      exact ⟨rfl, A, c, xs, B, d, ys, rfl, rfl, H1.out, H2.out, by omega, hx, HS.out.symm⟩
  case rest =>
    clear H1 H2 HS hx hy A B c d xs ys
    obtain ⟨rfl, A, c, xs, B, d, ys, rfl, rfl, h, k, hle, hx, hs⟩ := hcut
    obtain ⟨n, hn⟩ : ∃ n, n = xs.length := ⟨_, rfl⟩
    obtain ⟨m, hm⟩ : ∃ m, m = ys.length := ⟨_, rfl⟩
    rw [← hn, ← hm]
    have hln : n < 1000000 := by omega
    have hmn : m ≤ n := by omega
    have HN := Lib.hid hn
    have HM := Lib.hid hm
    have H1 := Lib.hid h
    have H2 := Lib.hid k
    have HS := Lib.hid hs
    clear h k hle hx hs hn hm
    go_wp2_with (first
      | (at_make; refine wpList_make_full _ rfl _ _ 22 rfl w.heap.size 35 i0 _ 1 Try.underlying22 HI.out.1 HI.out.2.1 HI.out.2.2.1 .i64 .i64 _ _ (n + 1) rfl rfl (by omega) (by omega) (by rw [HI.out.2.2.2]; omega) (by unfold maxLen; omega) (Nat.le_refl _) ?_; intro w0 hown0 hgrow0))
    have own0 := OwnU.made hown0
    have hb0 : Below w.heap.size w w0 := (Below.refl _ _).grown hgrow0 (Nat.le_refl _) (fun k hk => by cases hk)
    have R0 := Lib.hid (show AddRel n xs ys w w.heap.size 0 0 (List.replicate (n + 1) 0) w0 from ⟨by omega, own0, by simp [val], hb0⟩)
    clear hown0 hgrow0 own0 hb0
    generalize w.heap.size = g at R0 ⊢
    go_loopw [6, 22] (fun cv i wr => ∃ (k cy : Nat) (rs : List Nat), k ≤ n ∧ i = .int .i64 k ∧ cv = .int .u32 cy ∧ AddRel n xs ys w g k cy rs wr) (fun _ i _ => n - (intOf i).toNat)
    case atStart => exact ⟨0, 0, _, Nat.zero_le _, rfl, rfl, R0.out⟩
    case round =>
      obtain ⟨k, cy, rs, hk, rfl, rfl, R⟩ := hrel
      have hcy := R.1
      by_cases hlt : k < n
      · obtain ⟨b, off, rfl, hb, hc⟩ := H1.out.at_ (by rw [← HN.out]; omega)
        have ex := (R.2.2.2.cell (p := ⟨b, off + k, none⟩) hb).trans (hc k (by rw [← HN.out]; exact hlt))
        obtain ⟨x, hxx⟩ : ∃ x, x = xs[k]?.getD 0 := ⟨_, rfl⟩
        obtain ⟨y, hyy⟩ : ∃ y, y = ys[k]?.getD 0 := ⟨_, rfl⟩
        rw [← hxx] at ex
        have hxl : x < 4294967296 := by rw [hxx]; exact H1.out.1.getD k
        have hyl : y < 4294967296 := by rw [hyy]; exact H2.out.1.getD k
        have ec := R.2.1.cell (k := k) (by omega)
        have fc := R.2.1.free k
        have RR := Lib.hid (R.next HN.out.symm hlt H1.out.1 H2.out.1 hxx hyy)
        have H3 := Lib.hid (H2.out.below R.2.2.2)
        have HY := Lib.hid hyy
        clear hc hxx hyy R
        go_wp2_with (first
          | (go_at_call 59; refine (at_val H3.out HM.out.symm (by omega) k HY.out).mono ?_; rintro e w' ⟨rfl, rfl⟩)
          | (go_at_call 64; refine (add32_any x y cy _ hxl hyl hcy).mono ?_; rintro e w' ⟨rfl, rfl⟩))
        go_roundw
        case rel => exact ⟨k + 1, _, _, by omega, by go_num, rfl, RR.out⟩
        case measure => simp [intOf] <;> omega
      · obtain rfl : k = n := by omega
        have ec := R.2.1.cell (k := k) (by omega)
        have fc := R.2.1.free k
        have F := Lib.hid (R.last HN.out.symm (by rw [← HM.out]; exact hmn))
        have HSZ := Lib.hid (show (rs.set k cy).length = k + 1 from F.out.1.2.1)
        clear R hlt hk
        go_wp2_with (go_at_call 60; refine (trim_of F.out.1.reads HSZ.out (by omega)).mono ?_; rintro e w3 ⟨A3, c3, r3, rfl, u3, k3, v3, b3⟩)
        go_ret
        exact ⟨A3, c3, r3, rfl, u3, k3, v3.trans (F.out.2.1.trans HS.out), F.out.2.2.trans (b3.mono F.out.2.2.size)⟩

end Go.Proofs.Ythkeehfoefjnfaa
