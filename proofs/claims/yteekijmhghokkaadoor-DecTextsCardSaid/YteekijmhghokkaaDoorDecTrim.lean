/-
  dec: bytes of the call's own; trailing noughts fall away; bytes turned round.
-/
import Derived.Test.YteekijmhghokkaaDoorDecStr
import Derived.Test.YteekijmhghokkaaDoorLimbB
import Derived.Deep.LoopGhost
import Derived.RegionTactic

namespace Go.Proofs.YteekijmhghokkaaDoor
set_option linter.unusedVariables false
set_option linter.unusedSimpArgs false
open Go.RowKit Num Digs
abbrev u8v (b : UInt8) : Value := .int .u8 (b.toNat : Int)
/-- Bytes of the call's own. -/
def OwB (w : World) (base : Nat) (v : Value) (bs : List UInt8) : Prop := w.ownsRow base 5 1 v bs.length (bs.map u8v)
theorem OwB.below {w w' : World} {base : Nat} {v : Value} {bs : List UInt8} (h : OwB w base v bs) (hb : Below w.heap.size w w') : OwB w' base v bs := ownsRow_below h hb
theorem OwB.rd {w : World} {base : Nat} {A : Option Addr} {n c : Nat} {bs : List UInt8} (h : OwB w base (.slice A n c) bs) : n = bs.length ∧ Rd w A c (bs.map u8v) := by
  have hn : n = bs.length := by
    rcases h.2 with ⟨h1, h2⟩ | ⟨g, cap, cur, h1, _⟩
    · cases h1; omega
    · cases h1; rfl
  subst hn
  exact ⟨rfl, Rd.own h⟩
theorem OwB.take {w : World} {base : Nat} {A : Option Addr} {n c : Nat} {bs : List UInt8} (h : OwB w base (.slice A n c) bs) {k : Nat} (hk : k ≤ bs.length) : OwB w base (.slice A k c) (bs.take k) := by
  have hl : (bs.take k).length = k := by rw [List.length_take]; omega
  refine ⟨by simp, ?_⟩
  rw [hl]
  rcases h.2 with ⟨h1, h2⟩ | ⟨g, cap, cur, h1, hb, hg, hn, hc, hs, ht⟩
  · cases h1
    obtain rfl : k = 0 := by omega
    exact .inl ⟨rfl, rfl⟩
  · cases h1
    refine .inr ⟨g, c, cur, rfl, hb, hg, by omega, hc, hs, ?_⟩
    rw [Nat.mul_one] at ht ⊢
    rw [List.map_take, ← ht, List.take_take, Nat.min_eq_left hk]
theorem Tryd.info8 : (Tryd.prog.info? 5).map (fun i => (i.zero, i.size, i.bytes)) = some (some (.int .u8 0), 1, 1) := by kernel_rfl
set_option maxRecDepth 100000 in
set_option maxHeartbeats 1600000 in
theorem trimb_any (A : Option Addr) (c k : Nat) (bs : List UInt8) (w : World) (h : Rd w A c (bs.map u8v)) (hk : k ≤ bs.length) (hz : ∀ j, k ≤ j → j < bs.length → bs[j]? = some 48) (he : ∀ j, k = j + 1 → bs[j]? ≠ some 48) :
    Calls Tryd.prog 48 #[.slice A bs.length c, .int .u8 48] w fun e w' => e = .returned (.slice A k c) ∧ w = w' := by
  have hcap := h.1
  have hmax := h.2.1
  rw [List.length_map] at hcap
  unfold maxLen at hmax
  have HH := Lib.hid h
  have HZ := Lib.hid hz
  have HE := Lib.hid he
  clear h hz he
  obtain ⟨n, hn⟩ : ∃ n, n = bs.length := ⟨_, rfl⟩
  have HN := Lib.hid hn
  rw [← hn] at hcap hk ⊢
  clear hn
  go_enter Tryd.func48, Tryd.ntmps48
  go_wp2
  go_loop [0] (fun v => ∃ j : Nat, k ≤ j ∧ j ≤ n ∧ v = .slice A j c) (fun v => match v with | .slice _ j _ => j | _ => 0)
  case atStart => exact ⟨n, hk, Nat.le_refl _, rfl⟩
  case round =>
    obtain ⟨j, hkj, hjn, rfl⟩ := hrel
    rcases Nat.eq_zero_or_pos j with hj | hj
    · subst hj
      obtain rfl : k = 0 := by omega
      go_wp2
      go_ret
      exact ⟨rfl, rfl⟩
    · obtain ⟨t, rfl⟩ : ∃ t, j = t + 1 := ⟨j - 1, by omega⟩
      have hl : t < bs.length := by rw [← HN.out]; omega
      obtain ⟨b, off, rfl, hb, hc⟩ := HH.out.2.2 (by rw [List.length_map]; omega)
      obtain ⟨x, hx⟩ : ∃ x, bs[t]? = some x := ⟨_, List.getElem?_eq_getElem hl⟩
      have hct := hc t (u8v x) (by rw [List.getElem?_map, hx]; rfl)
      have hqz : ((t + 1 : Nat) : Int) = (t : Int) + 1 := by omega
      have htz : ((t : Int)).toNat = t := by omega
      have htc : (t : Int) < ((t : Int) + 1) := by omega
      clear hc
      by_cases hlt : k < t + 1
      · obtain rfl : x = 48 := by
          have := HZ.out t (by omega) hl
          rw [hx] at this
          exact Option.some.inj this
        have hct2 : w.cell? ⟨b, off + t, none⟩ = some (.int .u8 48) := hct
        clear hct hx
        go_wp2
        refine ⟨⟨t, by omega, by omega, rfl⟩, ?_⟩
        simp
      · obtain rfl : k = t + 1 := by omega
        have hne : ¬ ((x.toNat : Int) = 48) := fun e => HE.out t rfl (by rw [hx]; congr 1; exact UInt8.toNat_inj.1 (by rw [show (48 : UInt8).toNat = 48 from rfl]; omega))
        clear hx
        go_wp2
        go_ret
        exact ⟨rfl, rfl⟩
set_option maxRecDepth 100000 in
set_option maxHeartbeats 1600000 in
/-- bytes.TrimRight at a nought. -/
theorem trimr_any (A : Option Addr) (c k : Nat) (bs : List UInt8) (w : World) (h : Rd w A c (bs.map u8v)) (hk : k ≤ bs.length) (hz : ∀ j, k ≤ j → j < bs.length → bs[j]? = some 48) (he : ∀ j, k = j + 1 → bs[j]? ≠ some 48) :
    Calls Tryd.prog 38 #[.slice A bs.length c, .string ⟨#[48]⟩] w fun e w' => e = .returned (.slice A k c) ∧ w = w' := by
  have hcap := h.1
  have hmax := h.2.1
  rw [List.length_map] at hcap
  unfold maxLen at hmax
  have C := Lib.hid (trimb_any A c k bs w h hk hz he)
  clear h hz he
  generalize bs.length = n at C hk hcap ⊢
  by_cases h0 : 0 < n
  · have hz : ((n : Nat) : Int) ≠ 0 := by omega
    go_enter Tryd.func38, Tryd.ntmps38
    go_wp2_with (go_at_call 48; refine C.out.mono ?_; rintro e w1 ⟨rfl, rfl⟩)
    go_ret
    exact ⟨rfl, rfl⟩
  · obtain rfl : n = 0 := by omega
    obtain rfl : k = 0 := by omega
    go_enter Tryd.func38, Tryd.ntmps38
    go_wp2_with fail
    go_ret
    exact ⟨rfl, rfl⟩
end Go.Proofs.YteekijmhghokkaaDoor
