/-
  Slices that read as lists of limbs, and of bits.
  Small callees: at, shift, the reference's at, Right, Same.
  The reference's Same: the same limbs?
-/
import Derived.Test.YteekijmhghokkaaDoorLimbZ
import Derived.Test.YteekijmhghokkaaDoorRows
import Derived.WalkKit
import Derived.WalkSpells
import Derived.WalkLawsBesides
import Derived.Deep.Draws
import Derived.Lib.Hide
import Derived.Maps.AppendAt
import Derived.Deep.QuietTactic
import Derived.BigQuiet

namespace Go.Proofs.YteekijmhghokkaaDoor
set_option linter.unusedVariables false
set_option linter.unusedSimpArgs false
open Go.RowKit Num
/-- A slice's cells: at whatever address, if it has any. -/
def Rd (w : World) (A : Option Addr) (c : Nat) (vs : List Value) : Prop :=
  vs.length ≤ c ∧ c ≤ maxLen ∧ (0 < vs.length → ∃ b off, A = some ⟨b, off, none⟩ ∧ b < w.heap.size ∧ ∀ j u, vs[j]? = some u → w.cell? ⟨b, off + j, none⟩ = some u)
abbrev u32v (x : Nat) : Value := .int .u32 (x : Int)
def Us (w : World) (A : Option Addr) (c : Nat) (xs : List Nat) : Prop := Dig xs ∧ Rd w A c (xs.map u32v)
def Bl (w : World) (A : Option Addr) (c : Nat) (bs : List Bool) : Prop := Rd w A c (bs.map Value.bool)
theorem Rd.below {w w' : World} {A : Option Addr} {c : Nat} {vs : List Value} (h : Rd w A c vs) (hb : Below w.heap.size w w') : Rd w' A c vs :=
  ⟨h.1, h.2.1, fun hn => by
    obtain ⟨b, off, e, hlt, hc⟩ := h.2.2 hn
    exact ⟨b, off, e, Nat.lt_of_lt_of_le hlt hb.size, fun j u hu => (hb.cell (p := ⟨b, off + j, none⟩) hlt).trans (hc j u hu)⟩⟩
theorem Us.below {w w' : World} {A : Option Addr} {c : Nat} {xs : List Nat} (h : Us w A c xs) (hb : Below w.heap.size w w') : Us w' A c xs := ⟨h.1, h.2.below hb⟩
theorem Bl.below {w w' : World} {A : Option Addr} {c : Nat} {bs : List Bool} (h : Bl w A c bs) (hb : Below w.heap.size w w') : Bl w' A c bs := Rd.below h hb
theorem Rd.nil (w : World) : Rd w none 0 [] := ⟨Nat.le_refl _, by simp [maxLen], fun h => absurd h (by simp)⟩
theorem Us.nil (w : World) : Us w none 0 [] := ⟨Dig.nil, Rd.nil w⟩
theorem Us.cap {w : World} {A : Option Addr} {c : Nat} {xs : List Nat} (h : Us w A c xs) : xs.length ≤ c ∧ c ≤ 9223372036854775807 := by
  have h1 := h.2.1
  have h2 := h.2.2.1
  simp only [maxLen, List.length_map] at h1 h2
  exact ⟨h1, by omega⟩
theorem Bl.cap {w : World} {A : Option Addr} {c : Nat} {xs : List Bool} (h : Bl w A c xs) : xs.length ≤ c ∧ c ≤ 9223372036854775807 := by
  have h1 := h.1
  have h2 := h.2.1
  simp only [maxLen, List.length_map] at h1 h2
  exact ⟨h1, by omega⟩
theorem Us.at_ {w : World} {A : Option Addr} {c : Nat} {xs : List Nat} (h : Us w A c xs) (hn : 0 < xs.length) :
    ∃ b off, A = some ⟨b, off, none⟩ ∧ b < w.heap.size ∧ ∀ j, j < xs.length → w.cell? ⟨b, off + j, none⟩ = some (.int .u32 (xs[j]?.getD 0 : Nat)) := by
  obtain ⟨b, off, e, hb, hc⟩ := h.2.2.2 (by simpa using hn)
  exact ⟨b, off, e, hb, fun j hj => hc j _ (by simp [List.getElem?_eq_getElem hj])⟩
theorem Bl.at_ {w : World} {A : Option Addr} {c : Nat} {xs : List Bool} (h : Bl w A c xs) (hn : 0 < xs.length) :
    ∃ b off, A = some ⟨b, off, none⟩ ∧ b < w.heap.size ∧ ∀ j, j < xs.length → w.cell? ⟨b, off + j, none⟩ = some (.bool (xs[j]?.getD false)) := by
  obtain ⟨b, off, e, hb, hc⟩ := h.2.2 (by simpa using hn)
  exact ⟨b, off, e, hb, fun j hj => hc j _ (by simp [List.getElem?_eq_getElem hj])⟩
/-- An owned row reads. -/
theorem Rd.own {w : World} {base : Nat} {e : TypeId} {A : Option Addr} {n c : Nat} {vs : List Value} (h : w.ownsRow base e 1 (.slice A n c) n vs) : Rd w A c vs := by
  have hl : vs.length = n := by simpa using h.1
  rcases h.2 with ⟨h', hn⟩ | ⟨g, cap, cur, h', hb, hg, hnc, hcm, hcs, htake⟩
  · simp only [Value.slice.injEq] at h'
    obtain ⟨rfl, rfl, rfl⟩ := h'
    exact ⟨by omega, by simp [maxLen], fun h => by omega⟩
  · simp only [Value.slice.injEq, true_and] at h'
    obtain ⟨rfl, rfl⟩ := h'
    refine ⟨by omega, hcm, fun hn => ⟨g, 0, rfl, ?_, fun j u hu => ?_⟩⟩
    · rcases Nat.lt_or_ge g w.heap.size with hlt | hge
      · exact hlt
      · rw [Array.getElem?_eq_none hge] at hg; cases hg
    · rw [Nat.zero_add]
      have hj : j < vs.length := by
        rcases Nat.lt_or_ge j vs.length with hlt | hge
        · exact hlt
        · rw [List.getElem?_eq_none hge] at hu; cases hu
      exact (h.cellAt j (by omega)).trans hu
/-- The shape of an owned value. -/
theorem own_shape {w : World} {base : Nat} {e : TypeId} {v : Value} {n : Nat} {vs : List Value} (h : w.ownsRow base e 1 v n vs) : ∃ A c, v = .slice A n c := by
  rcases h.2 with ⟨rfl, rfl⟩ | ⟨g, cap, cur, rfl, _⟩
  · exact ⟨_, _, rfl⟩
  · exact ⟨_, _, rfl⟩
theorem below_drewN {B : Nat} {a w : World} (h : Below B a w) (n : Nat) : Below B a (w.drewN n) := ⟨h.os, h.tape, h.output, h.size, h.block⟩
theorem cell_new_l (w : World) (v : Value) (t : TypeId) : (w.alloc (.cells #[v] t)).cell? ⟨w.heap.size, 0, none⟩ = some v ∧ (w.alloc (.cells #[v] t)).frozen? ⟨w.heap.size, 0, none⟩ = false := by
  have h := heap_alloc_new w (.cells #[v] t)
  exact ⟨by rw [cell_of_row _ _ _ _ _ _ h]; rfl, frozen_of_row _ _ _ _ _ h⟩
theorem lt_of_cell {w : World} {p : Addr} {v : Value} (h : w.cell? p = some v) : p.block < w.heap.size := by
  rcases Nat.lt_or_ge p.block w.heap.size with hlt | hge
  · exact hlt
  · simp [World.cell?, Array.getElem?_eq_none hge] at h
theorem cell_alloc_l {w : World} {p : Addr} {v : Value} (o : Obj) (h : w.cell? p = some v) : (w.alloc o).cell? p = some v := (World.cell?_alloc_lt w o p (lt_of_cell h)).trans h
theorem frozen_alloc_l {w : World} {p : Addr} {v : Value} {b : Bool} (o : Obj) (h : w.cell? p = some v) (hf : w.frozen? p = b) : (w.alloc o).frozen? p = b :=
  (World.frozen?_of_block (Below.heap_alloc w o p.block (lt_of_cell h))).trans hf
/-- What a call that answers limbs leaves: in one way, the number n. -/
def RetU (n : Nat) (w : World) (e : Ending) (w' : World) : Prop :=
  ∃ A c rs, e = .returned (.slice A rs.length c) ∧ Us w' A c rs ∧ Canon rs ∧ val rs = n ∧ Below w.heap.size w w'
/-- .. bits. -/
def RetB (n : Nat) (w : World) (e : Ending) (w' : World) : Prop :=
  ∃ A c bs, e = .returned (.slice A bs.length c) ∧ Bl w' A c bs ∧ CanonB bs ∧ bval bs = n ∧ Below w.heap.size w w'
/-- What Div leaves. -/
def RetD (q r : Nat) (w : World) (e : Ending) (w' : World) : Prop :=
  ∃ A c rs, e = .returned (.tuple #[.slice A rs.length c, .int .u32 (r : Int)]) ∧ Us w' A c rs ∧ Canon rs ∧ val rs = q ∧ Below w.heap.size w w'
theorem Tryd.infoU : (Tryd.prog.info? 48).map (fun i => (i.zero, i.size, i.bytes)) = some (some (.int .u32 0), 1, 4) := by kernel_rfl
theorem Tryd.infoB : (Tryd.prog.info? 4).map (fun i => (i.zero, i.size, i.bytes)) = some (some (.bool false), 1, 1) := by kernel_rfl
end Go.Proofs.YteekijmhghokkaaDoor

namespace Go.Proofs.YteekijmhghokkaaDoor
set_option linter.unusedVariables false
set_option linter.unusedSimpArgs false
open Go.RowKit Num
set_option maxHeartbeats 400000 in
/-- The reference's at: a bit; none behind all, nor below 0. -/
theorem rat_any (A : Option Addr) (c : Nat) (bs : List Bool) (i : Int) (w : World) (h : Bl w A c bs) (hl : bs.length ≤ 100000000) :
    Calls Tryd.prog 40 #[.slice A bs.length c, .int .i64 i] w fun e w' => e = .returned (.bool (decide (0 ≤ i) && bs[i.toNat]?.getD false)) ∧ w = w' := by
  by_cases h0 : 0 ≤ i
  · obtain ⟨k, rfl⟩ := Int.eq_ofNat_of_zero_le h0
    rw [Int.toNat_natCast, decide_eq_true h0, Bool.true_and]
    obtain ⟨x, hx⟩ : ∃ x, x = bs[k]?.getD false := ⟨_, rfl⟩
    by_cases hlt : k < bs.length
    · obtain ⟨b, off, rfl, hb, hc⟩ := h.at_ (by omega)
      have hck := hc k hlt
      rw [← hx] at hck ⊢
      clear hc h hx
      go_enter Tryd.func40, Tryd.ntmps40
      go_wp2
      go_ret
      exact ⟨rfl, rfl⟩
    · rw [List.getElem?_eq_none (by omega)] at hx ⊢
      clear h hx
      go_enter Tryd.func40, Tryd.ntmps40
      go_wp2
      go_ret
      exact ⟨rfl, rfl⟩
  · rw [decide_eq_false h0, Bool.false_and]
    clear h
    go_enter Tryd.func40, Tryd.ntmps40
    go_wp2
    go_ret
    exact ⟨rfl, rfl⟩
/-- In one way? -/
def rightB (xs : List Nat) : Bool := xs.length == 0 || xs[xs.length - 1]?.getD 0 != 0
set_option maxHeartbeats 400000 in
theorem rright_any (A : Option Addr) (c : Nat) (xs : List Nat) (w : World) (h : Us w A c xs) (hl : xs.length ≤ 1000000) :
    Calls Tryd.prog 21 #[.slice A xs.length c] w fun e w' => e = .returned (.bool (rightB xs)) ∧ w = w' := by
  obtain ⟨x, hx⟩ : ∃ x, x = xs[xs.length - 1]?.getD 0 := ⟨_, rfl⟩
  unfold rightB
  by_cases hlt : 0 < xs.length
  · obtain ⟨b, off, rfl, hb, hc⟩ := h.at_ hlt
    have hck := hc (xs.length - 1) (by omega)
    have e0 : (xs.length == 0) = false := by rw [beq_eq_false_iff_ne]; omega
    rw [← hx] at hck ⊢
    rw [e0, Bool.false_or]
    generalize xs.length = n at *
    obtain ⟨m, rfl⟩ : ∃ m, n = m + 1 := ⟨n - 1, by omega⟩
    rw [Nat.add_sub_cancel] at hck
    clear hc h hx e0
    go_enter Tryd.func21, Tryd.ntmps21
    by_cases hx0 : x = 0
    · subst hx0
      go_wp2
      go_ret
      exact ⟨rfl, rfl⟩
    · have hb1 : ((x : Int) == 0) = false := by rw [beq_eq_false_iff_ne]; omega
      have hb2 : ((x : Int) != 0) = true := by rw [bne_iff_ne]; omega
      have e1 : (x != 0) = true := by rw [bne_iff_ne]; omega
      rw [e1]
      clear e1 hx0
      go_wp2
      go_ret
      exact ⟨rfl, rfl⟩
  · have e0 : xs.length = 0 := by omega
    rw [e0]
    clear h hx hl hlt e0
    go_enter Tryd.func21, Tryd.ntmps21
    go_wp2
    go_ret
    exact ⟨rfl, rfl⟩
end Go.Proofs.YteekijmhghokkaaDoor

namespace Go.Proofs.YteekijmhghokkaaDoor
set_option linter.unusedVariables false
set_option linter.unusedSimpArgs false
open Go.RowKit Num
theorem same_lists {xs ys : List Nat} (hl : xs.length = ys.length) (h : ∀ j, j < xs.length → xs[j]?.getD 0 = ys[j]?.getD 0) : xs = ys := by
  refine List.ext_getElem hl fun j h1 h2 => ?_
  have := h j h1
  rwa [List.getElem?_eq_getElem h1, List.getElem?_eq_getElem h2] at this
set_option maxRecDepth 100000 in
set_option maxHeartbeats 800000 in
theorem same_any (A B : Option Addr) (c d : Nat) (xs ys : List Nat) (w : World) (h : Us w A c xs) (k : Us w B d ys) (hx : xs.length ≤ 1000000) :
    Calls Tryd.prog 29 #[.slice A xs.length c, .slice B ys.length d] w fun e w' => e = .returned (.bool (decide (xs = ys))) ∧ Below w.heap.size w w' := by
  obtain ⟨r, hr⟩ : ∃ r, r = decide (xs = ys) := ⟨_, rfl⟩
  rw [← hr]
  have HR := Lib.hid hr
  clear hr
  by_cases hl : xs.length = ys.length
  · by_cases h0 : 0 < xs.length
    · obtain ⟨b, off, rfl, hb, hc⟩ := h.at_ h0
      obtain ⟨b2, off2, rfl, hb2, hc2⟩ := k.at_ (by omega)
      clear h k
      obtain ⟨n, hn⟩ : ∃ n, n = xs.length := ⟨_, rfl⟩
      rw [← hl, ← hn]
      have HC := Lib.hid hc
      have HC2 := Lib.hid hc2
      have HL := Lib.hid hl
      have HN := Lib.hid hn
      have hn1 : n ≤ 1000000 := by omega
      clear hc hc2 hl hn h0 hx
      go_enter Tryd.func29, Tryd.ntmps29
      go_wp2
      go_loopw [5] (fun i wr => ∃ k : Nat, k ≤ n ∧ i = .int .i64 k ∧ (∀ j, j < k → xs[j]?.getD 0 = ys[j]?.getD 0) ∧ Below w.heap.size w wr) (fun i _ => n - (intOf i).toNat)
      case atStart => exact ⟨0, by omega, rfl, fun j hj => by omega, Below.refl _ _⟩
      case round =>
        obtain ⟨k, hk, rfl, hall, hbw⟩ := hrel
        have HA := Lib.hid hall
        clear hall
        by_cases hlt : k < n
        · have e1 := (hbw.cell (p := ⟨b, off + k, none⟩) hb).trans (HC.out k (by rw [← HN.out]; exact hlt))
          have e2 := (hbw.cell (p := ⟨b2, off2 + k, none⟩) hb2).trans (HC2.out k (by rw [← HL.out, ← HN.out]; exact hlt))
          obtain ⟨x, hxe⟩ : ∃ x, x = xs[k]?.getD 0 := ⟨_, rfl⟩
          obtain ⟨y, hye⟩ : ∃ y, y = ys[k]?.getD 0 := ⟨_, rfl⟩
          rw [← hxe] at e1
          rw [← hye] at e2
          have HX := Lib.hid hxe
          have HY := Lib.hid hye
          clear hxe hye
          have i1 : (k : Int) < (n : Int) := by omega
          by_cases hxy : x = y
          · subst hxy
            go_wp2
            go_quiet (fail)
            go_wp2
            go_roundw
            case rel =>
              refine ⟨k + 1, by omega, by go_num, fun j hj => ?_, below_drewN hbw _⟩
              rcases Nat.lt_or_ge j k with h1 | h1
              · exact HA.out j h1
              · have : j = k := by omega
                subst this
                rw [← HX.out, ← HY.out]
            case measure => simp [intOf]; omega
          · have t1 : ((x : Int) != (y : Int)) = true := by rw [bne_iff_ne]; omega
            clear hxy
            go_wp2
            go_quiet (fail)
            go_wp2
            go_ret
            refine ⟨?_, below_drewN hbw _⟩
            have : r = false := by
              rw [HR.out]
              refine decide_eq_false fun e => ?_
              have := HX.out
              rw [e, ← HY.out] at this
              subst this
              simp at t1
            rw [this]; rfl
        · obtain rfl : k = n := by omega
          go_wp2
          go_ret
          refine ⟨?_, hbw⟩
          have : r = true := by
            rw [HR.out]
            exact decide_eq_true (same_lists HL.out (by rw [← HN.out]; exact HA.out))
          rw [this]; rfl
    · have e1 : xs.length = 0 := by omega
      have e2 : ys.length = 0 := by omega
      have : r = true := by
        rw [HR.out]
        exact decide_eq_true ((List.eq_nil_of_length_eq_zero e1).trans (List.eq_nil_of_length_eq_zero e2).symm)
      rw [e1, e2, this]
      clear HR h k h0 hx hl e1 e2 this
      go_enter Tryd.func29, Tryd.ntmps29
      go_wp2
      refine wp_loop_rounds 1 ?_
      rw [rounds_succ]
      go_wp2
      go_ret
      exact ⟨rfl, Below.refl _ _⟩
  · have : r = false := by
      rw [HR.out]
      exact decide_eq_false fun e => hl (by rw [e])
    rw [this]
    clear HR this h k
    have t1 : ((xs.length : Int) != (ys.length : Int)) = true := by rw [bne_iff_ne]; omega
    clear hl
    generalize xs.length = n at *
    generalize ys.length = m at *
    go_enter Tryd.func29, Tryd.ntmps29
    go_wp2
    go_ret
    exact ⟨rfl, Below.refl _ _⟩
end Go.Proofs.YteekijmhghokkaaDoor
