/-
  canon: alive.
  Slices that read as lists of limbs, and of bits.
  The reference's Same: the same limbs?
  slices.Backward over limbs: the iterator's contract.
  limb.trim: a without the limbs behind the last one that isn't 0; limb.Norm.
  append onto a row of the call's own; limb.Norm.
  Rows of limbs that the call made itself.
  limb.Mul: times a number, and one more.
  Small callees: at, shift, the reference's at, Right, Same.
-/
import Derived.Test.YtmfncapgikobkaaGreatGNcOr
import Derived.Laws.EntriesVeiled
import Derived.Test.YtmfncapgikobkaaGreatGNcPB
import Derived.LoopN
import Derived.Test.YtmfncapgikobkaaGreatGLen32
import Derived.Test.YtmfncapgikobkaaGreatRows
import Derived.WalkKit
import Derived.WalkSpells
import Derived.WalkLawsBesides
import Derived.Deep.Draws
import Derived.Lib.Hide
import Derived.Maps.AppendAt
import Derived.Deep.QuietTactic
import Derived.BigQuiet
import Derived.RangeFuncNested
import Derived.RangeFuncBound
import Derived.RangeFuncCalls
import Derived.RangeFuncLeaves
import Derived.Shelf.Abstract
import Derived.Shelf.RegionOpen
import Derived.OwnWalkIn
import Derived.TacticsInMore
import Derived.LoopNIn
import Derived.LoopIn
import Derived.OwnWalk

namespace Go.Proofs.YtmfncapgikobkaaGreat
set_option maxRecDepth 100000
set_option linter.unusedVariables false
set_option linter.unusedSimpArgs false
open Go.RowKit Nds
theorem rof_at (A : Option Addr) (c n : Nat) (l : List Nd) (k : Int) (q : List Nd) (qn : Nat) (er : Int) (w : World) (h : Ns w A c l) (hn : l.length = n) (hn9 : n ≤ 900000) (hA : A = none → c = 0) (hq : ofQ l k = q) (hqn : q.length = qn) (he : ofE l k = er) :
  Calls Tryz.prog 13 #[.slice A n c, .int .i64 k] w fun e w' => ∃ A' c', e = .returned (.tuple #[.agg #[.slice A' qn c'], .int .i64 er]) ∧ Ns w' A' c' q ∧ (A' = none → c' = 0) ∧ Below w.heap.size w w' :=
 (rof_any A c n l k w h hn hn9 hA).mono fun e w' ⟨A', c', h1, h2, h3, h4⟩ => ⟨A', c', by rw [← hqn, ← hq, ← he]; exact h1, by rw [← hq]; exact h2, h3, h4⟩
structure Al (w W : World) (L : List (Option Addr × Nat × List Nd)) (M : List (Nat × Value)) : Prop where
 sn : Sn w W L
 bx : ∀ t ∈ M, W.heap[t.1]? = some (.cells #[t.2] 27)
theorem Al.start (w : World) : Al w w [] [] := ⟨Sn.start w, by simp⟩
theorem Al.step {w W W' : World} {L : List (Option Addr × Nat × List Nd)} {M : List (Nat × Value)} (s : Al w W L M) (b : Below W.heap.size W W') : Al w W' L M :=
 ⟨s.sn.step b, fun t ht => (b.block t.1 (box_lt (s.bx t ht))).trans (s.bx t ht)⟩
theorem Al.alloc {w W : World} {L : List (Option Addr × Nat × List Nd)} {M : List (Nat × Value)} (s : Al w W L M) (o : Obj) : Al w (W.alloc o) L M := s.step ((Below.refl _ W).alloc (Nat.le_refl _) o)
theorem Al.addN {w W : World} {L : List (Option Addr × Nat × List Nd)} {M : List (Nat × Value)} (s : Al w W L M) {A : Option Addr} {c : Nat} {l : List Nd} (h : Ns W A c l) : Al w W ((A, c, l) :: L) M := ⟨s.sn.add h, s.bx⟩
theorem Al.addB {w W : World} {L : List (Option Addr × Nat × List Nd)} {M : List (Nat × Value)} (s : Al w W L M) (v : Value) : Al w (W.alloc (.cells #[v] 27)) L ((W.heap.size, v) :: M) :=
 ⟨(s.alloc _).sn, fun t ht => by
  rcases List.mem_cons.1 ht with rfl | ht
  ·
   exact heap_alloc_new W _
  ·
   exact (s.alloc _).bx t ht⟩
theorem Al.getN {w W : World} {L : List (Option Addr × Nat × List Nd)} {M : List (Nat × Value)} (s : Al w W L M) {A : Option Addr} {c : Nat} {l : List Nd} (h : (A, c, l) ∈ L) : Ns W A c l := s.sn.get h
theorem Al.getB {w W : World} {L : List (Option Addr × Nat × List Nd)} {M : List (Nat × Value)} (s : Al w W L M) {g : Nat} {v : Value} (h : (g, v) ∈ M) : W.cell? ⟨g, 0, none⟩ = some v := box_cell (s.bx _ h)
end Go.Proofs.YtmfncapgikobkaaGreat

namespace Go.Proofs.YtmfncapgikobkaaGreat
set_option maxRecDepth 100000
set_option linter.unusedVariables false
set_option linter.unusedSimpArgs false
open Go.RowKit Num
def Rd (w : World) (A : Option Addr) (c : Nat) (vs : List Value) : Prop :=
 vs.length ≤ c ∧ c ≤ maxLen ∧ (0 < vs.length → ∃ b off, A = some ⟨b, off, none⟩ ∧ b < w.heap.size ∧ ∀ j u, vs[j]? = some u → w.cell? ⟨b, off + j, none⟩ = some u)
abbrev u32v (x : Nat) : Value := .int .u32 (x : Int)
def Us (w : World) (A : Option Addr) (c : Nat) (xs : List Nat) : Prop := Dig xs ∧ Rd w A c (xs.map u32v)
def Bl (w : World) (A : Option Addr) (c : Nat) (bs : List Bool) : Prop := Rd w A c (bs.map Value.bool)
theorem Rd.below {w w' : World} {A : Option Addr} {c : Nat} {vs : List Value} (h : Rd w A c vs) (hb : Below w.heap.size w w') : Rd w' A c vs :=
 ⟨h.1, h.2.1, fun hn => by
  obtain ⟨b, off, e, hlt, hc⟩ := h.2.2 hn
  exact ⟨b, off, e, Nat.lt_of_lt_of_le hlt hb.size, fun j u hu => (hb.cell (p := ⟨b, off + j, none⟩) hlt).trans (hc j u hu)⟩⟩
theorem Us.below {w w' : World} {A : Option Addr} {c : Nat} {xs : List Nat} (h : Us w A c xs) (hb : Below w.heap.size w w') : Us w' A c xs := ⟨h.1, h.2.below hb⟩
theorem Bl.below {w w' : World} {A : Option Addr} {c : Nat} {bs : List Bool} (h : Bl w A c bs) (hb : Below w.heap.size w w') : Bl w' A c bs := Rd.below h hb
theorem Rd.nil (w : World) : Rd w none 0 [] := ⟨Nat.le_refl _, by simp [maxLen], fun h => absurd h (by simp)⟩
theorem Us.nil (w : World) : Us w none 0 [] := ⟨Dig.nil, Rd.nil w⟩
theorem Us.cap {w : World} {A : Option Addr} {c : Nat} {xs : List Nat} (h : Us w A c xs) : xs.length ≤ c ∧ c ≤ 9223372036854775807 := by
 have h1 := h.2.1
 have h2 := h.2.2.1
 simp only [maxLen, List.length_map] at h1 h2
 exact ⟨h1, by omega⟩
theorem Bl.cap {w : World} {A : Option Addr} {c : Nat} {xs : List Bool} (h : Bl w A c xs) : xs.length ≤ c ∧ c ≤ 9223372036854775807 := by
 have h1 := h.1
 have h2 := h.2.1
 simp only [maxLen, List.length_map] at h1 h2
 exact ⟨h1, by omega⟩
theorem Us.at_ {w : World} {A : Option Addr} {c : Nat} {xs : List Nat} (h : Us w A c xs) (hn : 0 < xs.length) :
  ∃ b off, A = some ⟨b, off, none⟩ ∧ b < w.heap.size ∧ ∀ j, j < xs.length → w.cell? ⟨b, off + j, none⟩ = some (.int .u32 (xs[j]?.getD 0 : Nat)) := by
 obtain ⟨b, off, e, hb, hc⟩ := h.2.2.2 (by simpa using hn)
 exact ⟨b, off, e, hb, fun j hj => hc j _ (by simp [List.getElem?_eq_getElem hj])⟩
theorem Bl.at_ {w : World} {A : Option Addr} {c : Nat} {xs : List Bool} (h : Bl w A c xs) (hn : 0 < xs.length) :
  ∃ b off, A = some ⟨b, off, none⟩ ∧ b < w.heap.size ∧ ∀ j, j < xs.length → w.cell? ⟨b, off + j, none⟩ = some (.bool (xs[j]?.getD false)) := by
 obtain ⟨b, off, e, hb, hc⟩ := h.2.2 (by simpa using hn)
 exact ⟨b, off, e, hb, fun j hj => hc j _ (by simp [List.getElem?_eq_getElem hj])⟩
theorem Rd.own {w : World} {base : Nat} {e : TypeId} {A : Option Addr} {n c : Nat} {vs : List Value} (h : w.ownsRow base e 1 (.slice A n c) n vs) : Rd w A c vs := by
 have hl : vs.length = n := by simpa using h.1
 rcases h.2 with ⟨h', hn⟩ | ⟨g, cap, cur, h', hb, hg, hnc, hcm, hcs, htake⟩
 ·
  simp only [Value.slice.injEq] at h'
  obtain ⟨rfl, rfl, rfl⟩ := h'
  exact ⟨by omega, by simp [maxLen], fun h => by omega⟩
 ·
  simp only [Value.slice.injEq, true_and] at h'
  obtain ⟨rfl, rfl⟩ := h'
  refine ⟨by omega, hcm, fun hn => ⟨g, 0, rfl, ?_, fun j u hu => ?_⟩⟩
  ·
   rcases Nat.lt_or_ge g w.heap.size with hlt | hge
   ·
    exact hlt
   ·
    rw [Array.getElem?_eq_none hge] at hg; cases hg
  ·
   rw [Nat.zero_add]
   have hj : j < vs.length := by
    rcases Nat.lt_or_ge j vs.length with hlt | hge
    ·
     exact hlt
    ·
     rw [List.getElem?_eq_none hge] at hu; cases hu
   exact (h.cellAt j (by omega)).trans hu
theorem own_shape {w : World} {base : Nat} {e : TypeId} {v : Value} {n : Nat} {vs : List Value} (h : w.ownsRow base e 1 v n vs) : ∃ A c, v = .slice A n c := by
 rcases h.2 with ⟨rfl, rfl⟩ | ⟨g, cap, cur, rfl, _⟩
 ·
  exact ⟨_, _, rfl⟩
 ·
  exact ⟨_, _, rfl⟩
theorem below_drewN {B : Nat} {a w : World} (h : Below B a w) (n : Nat) : Below B a (w.drewN n) := ⟨h.os, h.tape, h.output, h.size, h.block⟩
theorem cell_new_l (w : World) (v : Value) (t : TypeId) : (w.alloc (.cells #[v] t)).cell? ⟨w.heap.size, 0, none⟩ = some v ∧ (w.alloc (.cells #[v] t)).frozen? ⟨w.heap.size, 0, none⟩ = false := by
 have h := heap_alloc_new w (.cells #[v] t)
 exact ⟨by rw [cell_of_row _ _ _ _ _ _ h]; rfl, frozen_of_row _ _ _ _ _ h⟩
theorem lt_of_cell {w : World} {p : Addr} {v : Value} (h : w.cell? p = some v) : p.block < w.heap.size := by
 rcases Nat.lt_or_ge p.block w.heap.size with hlt | hge
 ·
  exact hlt
 ·
  simp [World.cell?, Array.getElem?_eq_none hge] at h
theorem cell_alloc_l {w : World} {p : Addr} {v : Value} (o : Obj) (h : w.cell? p = some v) : (w.alloc o).cell? p = some v := (World.cell?_alloc_lt w o p (lt_of_cell h)).trans h
theorem frozen_alloc_l {w : World} {p : Addr} {v : Value} {b : Bool} (o : Obj) (h : w.cell? p = some v) (hf : w.frozen? p = b) : (w.alloc o).frozen? p = b :=
 (World.frozen?_of_block (Below.heap_alloc w o p.block (lt_of_cell h))).trans hf
def RetU (n : Nat) (w : World) (e : Ending) (w' : World) : Prop :=
 ∃ A c rs, e = .returned (.slice A rs.length c) ∧ Us w' A c rs ∧ Canon rs ∧ val rs = n ∧ Below w.heap.size w w'
def RetB (n : Nat) (w : World) (e : Ending) (w' : World) : Prop :=
 ∃ A c bs, e = .returned (.slice A bs.length c) ∧ Bl w' A c bs ∧ CanonB bs ∧ bval bs = n ∧ Below w.heap.size w w'
theorem Tryz.infoU : (Tryz.prog.info? 89).map (fun i => (i.zero, i.size, i.bytes)) = some (some (.int .u32 0), 1, 4) := by kernel_rfl
theorem Tryz.infoB : (Tryz.prog.info? 4).map (fun i => (i.zero, i.size, i.bytes)) = some (some (.bool false), 1, 1) := by kernel_rfl
end Go.Proofs.YtmfncapgikobkaaGreat

namespace Go.Proofs.YtmfncapgikobkaaGreat
set_option maxRecDepth 100000
set_option linter.unusedVariables false
set_option linter.unusedSimpArgs false
open Go.RowKit Num
theorem same_lists {xs ys : List Nat} (hl : xs.length = ys.length) (h : ∀ j, j < xs.length → xs[j]?.getD 0 = ys[j]?.getD 0) : xs = ys := by
 refine List.ext_getElem hl fun j h1 h2 => ?_
 have := h j h1
 rwa [List.getElem?_eq_getElem h1, List.getElem?_eq_getElem h2] at this
set_option maxRecDepth 100000 in
set_option maxHeartbeats 800000 in
theorem same_any (A B : Option Addr) (c d : Nat) (xs ys : List Nat) (w : World) (h : Us w A c xs) (k : Us w B d ys) (hx : xs.length ≤ 1000000) :
  Calls Tryz.prog 47 #[.slice A xs.length c, .slice B ys.length d] w fun e w' => e = .returned (.bool (decide (xs = ys))) ∧ Below w.heap.size w w' := by
 obtain ⟨r, hr⟩ : ∃ r, r = decide (xs = ys) := ⟨_, rfl⟩
 rw [← hr]
 have HR := Lib.hid hr
 clear hr
 by_cases hl : xs.length = ys.length
 ·
  by_cases h0 : 0 < xs.length
  ·
   obtain ⟨b, off, rfl, hb, hc⟩ := h.at_ h0
   obtain ⟨b2, off2, rfl, hb2, hc2⟩ := k.at_ (by omega)
   clear h k
   obtain ⟨n, hn⟩ : ∃ n, n = xs.length := ⟨_, rfl⟩
   rw [← hl, ← hn]
   have HC := Lib.hid hc
   have HC2 := Lib.hid hc2
   have HL := Lib.hid hl
   have HN := Lib.hid hn
   have hn1 : n ≤ 1000000 := by omega
   clear hc hc2 hl hn h0 hx
   go_enter Tryz.func47, Tryz.ntmps47
   go_wp2
   go_loopw [5] (fun i wr => ∃ k : Nat, k ≤ n ∧ i = .int .i64 k ∧ (∀ j, j < k → xs[j]?.getD 0 = ys[j]?.getD 0) ∧ Below w.heap.size w wr) (fun i _ => n - (intOf i).toNat)
   case atStart => exact ⟨0, by omega, rfl, fun j hj => by omega, Below.refl _ _⟩
   case round =>
    obtain ⟨k, hk, rfl, hall, hbw⟩ := hrel
    have HA := Lib.hid hall
    clear hall
    by_cases hlt : k < n
    ·
     have e1 := (hbw.cell (p := ⟨b, off + k, none⟩) hb).trans (HC.out k (by rw [← HN.out]; exact hlt))
     have e2 := (hbw.cell (p := ⟨b2, off2 + k, none⟩) hb2).trans (HC2.out k (by rw [← HL.out, ← HN.out]; exact hlt))
     obtain ⟨x, hxe⟩ : ∃ x, x = xs[k]?.getD 0 := ⟨_, rfl⟩
     obtain ⟨y, hye⟩ : ∃ y, y = ys[k]?.getD 0 := ⟨_, rfl⟩
     rw [← hxe] at e1
     rw [← hye] at e2
     have HX := Lib.hid hxe
     have HY := Lib.hid hye
     clear hxe hye
     have i1 : (k : Int) < (n : Int) := by omega
     by_cases hxy : x = y
     ·
      subst hxy
      go_wp2
      go_quiet (fail)
      go_wp2
      go_roundw
      case rel =>
       refine ⟨k + 1, by omega, by go_num, fun j hj => ?_, below_drewN hbw _⟩
       rcases Nat.lt_or_ge j k with h1 | h1
       ·
        exact HA.out j h1
       ·
        have : j = k := by omega
        subst this
        rw [← HX.out, ← HY.out]
      case measure => simp [intOf]; omega
     ·
      have t1 : ((x : Int) != (y : Int)) = true := by rw [bne_iff_ne]; omega
      clear hxy
      go_wp2
      go_quiet (fail)
      go_wp2
      go_ret
      refine ⟨?_, below_drewN hbw _⟩
      have : r = false := by
       rw [HR.out]
       refine decide_eq_false fun e => ?_
       have := HX.out
       rw [e, ← HY.out] at this
       subst this
       simp at t1
      rw [this]; rfl
    ·
     obtain rfl : k = n := by omega
     go_wp2
     go_ret
     refine ⟨?_, hbw⟩
     have : r = true := by
      rw [HR.out]
      exact decide_eq_true (same_lists HL.out (by rw [← HN.out]; exact HA.out))
     rw [this]; rfl
  ·
   have e1 : xs.length = 0 := by omega
   have e2 : ys.length = 0 := by omega
   have : r = true := by
    rw [HR.out]
    exact decide_eq_true ((List.eq_nil_of_length_eq_zero e1).trans (List.eq_nil_of_length_eq_zero e2).symm)
   rw [e1, e2, this]
   clear HR h k h0 hx hl e1 e2 this
   go_enter Tryz.func47, Tryz.ntmps47
   go_wp2
   refine wp_loop_rounds 1 ?_
   rw [rounds_succ]
   go_wp2
   go_ret
   exact ⟨rfl, Below.refl _ _⟩
 ·
  have : r = false := by
   rw [HR.out]
   exact decide_eq_false fun e => hl (by rw [e])
  rw [this]
  clear HR this h k
  have t1 : ((xs.length : Int) != (ys.length : Int)) = true := by rw [bne_iff_ne]; omega
  clear hl
  generalize xs.length = n at *
  generalize ys.length = m at *
  go_enter Tryz.func47, Tryz.ntmps47
  go_wp2
  go_ret
  exact ⟨rfl, Below.refl _ _⟩
end Go.Proofs.YtmfncapgikobkaaGreat

namespace Go.Proofs.YtmfncapgikobkaaGreat
set_option maxRecDepth 100000
set_option linter.unusedVariables false
set_option linter.unusedSimpArgs false
open Go.RowKit Go.Shelf Num
attribute [local go_sem] Oper.semAt_some
abbrev Item (n : Nat) : Type := { x : Nat × Nat // (0 < n → x.1 < n) ∧ x.2 < 4294967296 }
def itemE {n : Nat} (x : Item n) : Array Value := #[.int .i64 (x.1.1 : Int), .int .u32 (x.1.2 : Int)]
def it (xs : List Nat) (hd : Dig xs) (j : Nat) : Item xs.length := ⟨(xs.length - 1 - j, xs[xs.length - 1 - j]?.getD 0), ⟨fun h => by omega, hd.getD _⟩⟩
def its (xs : List Nat) (hd : Dig xs) (k : Nat) : List (Item xs.length) := (List.range k).map (it xs hd)
theorem its_succ (xs : List Nat) (hd : Dig xs) (k : Nat) : its xs hd (k + 1) = its xs hd k ++ [it xs hd k] := by simp [its, List.range_succ]
theorem its_length (xs : List Nat) (hd : Dig xs) (k : Nat) : (its xs hd k).length = k := by simp [its]
def BackK (n₀ Bs : Nat) (W W' : World) : Prop := Below n₀ W W' ∧ W'.heap[Bs]? = W.heap[Bs]?
theorem BackK.refl (n₀ Bs : Nat) (W : World) : BackK n₀ Bs W W := ⟨Below.refl _ _, rfl⟩
theorem BackK.trans {n₀ Bs : Nat} {A B C : World} (h : BackK n₀ Bs A B) (k : BackK n₀ Bs B C) : BackK n₀ Bs A C := ⟨h.1.trans k.1, k.2.trans h.2⟩
theorem BackK.b {n₀ Bs : Nat} {w : World} (hn : n₀ ≤ w.heap.size) (hB : Bs < w.heap.size) (W : World) (l : Nat) (o o' : Obj) (hl : w.heap.size ≤ l) (h : W.heap[l]? = some o) (h1 : o.isCells = false) (h2 : o.isWalk = false) : BackK n₀ Bs W (W.putObj l o') :=
 ⟨belowK_b hn W l o o' hl h h1 h2, World.putObj_heap_other (by omega)⟩
theorem BackK.setCell {n₀ Bs : Nat} {W W' : World} (h : BackK n₀ Bs W W') {p : Addr} (hp : n₀ ≤ p.block) (hB : p.block ≠ Bs) (u : Value) : BackK n₀ Bs W (W'.setCell p u) :=
 ⟨h.1.setCell hp u, (Below.heap_setCell W' p u Bs (fun e => hB e.symm)).trans h.2⟩
set_option maxRecDepth 100000 in
set_option maxHeartbeats 2000000 in
theorem back1_in (F : Fence) (n : Nat) (h46 : F.fn 135) (hro : F.round = none) (hn : 1 ≤ n) (l Bs n₀ b off cap : Nat) (xs : List Nat) (hd : Dig xs) (hlen : xs.length ≤ 1000000) (hb : b < n₀)
  (J Jx : List (Item xs.length) → World → Prop)
  (hY : ∀ pre x W, J pre W → pre.length < xs.length → YieldAt F (n - 1) Tryz.prog l (itemE x) W fun e W' =>
   (e = .returned (.bool true) ∧ J (pre ++ [x]) W' ∧ BackK n₀ Bs W W') ∨ (e = .returned (.bool false) ∧ Jx (pre ++ [x]) W'))
  (W : World) (hBs : W.cell? ⟨Bs, 0, none⟩ = some (.slice (some ⟨b, off, none⟩) xs.length cap)) (hc : ∀ j, j < xs.length → W.cell? ⟨b, off + j, none⟩ = some (.int .u32 (xs[j]?.getD 0 : Nat))) (h0 : J [] W) :
  CallsIn F n Tryz.prog 135 #[.func (.yield l) #[] #[], .pointer (some ⟨Bs, 0, none⟩)] W fun e W' => (∃ v, e = .returned v) ∧
   ((∃ ys, ys = its xs hd xs.length ∧ J ys W') ∨ (∃ pre, (∃ k, k ≤ xs.length ∧ pre = its xs hd k) ∧ Jx pre W')) := by
 have HC := Lib.hid hc
 clear hc
 refine callsIn_of_wp Tryz.func135 rfl h46 ?_ hro
 simp only [Tryz.ntmps135, List.size_toArray, List.length_cons, List.length_nil, Nat.reduceAdd, Nat.reduceSub, Array.replicate_succ, Array.replicate_zero, List.push_toArray, List.append_toArray, List.nil_append, List.cons_append]
 gi_wp2
 gi_loopw [3] (fun i wr => ∃ (m : Nat) (t : Int), m ≤ xs.length ∧ t = (m : Int) - 1 ∧ i = .int .i64 t ∧ J (its xs hd (xs.length - m)) wr ∧ BackK n₀ Bs W wr)
  (fun i _ => (intOf i + 1).toNat)
 case atStart => exact ⟨xs.length, _, Nat.le_refl _, rfl, rfl, by rw [Nat.sub_self]; exact h0, BackK.refl _ _ _⟩
 case round =>
  obtain ⟨m, t, hm, ht, rfl, hJs, hnx⟩ := hrel
  by_cases hp : 0 < m
  ·
   obtain ⟨p, rfl⟩ : ∃ p, m = p + 1 := ⟨m - 1, by omega⟩
   obtain rfl : t = (p : Int) := by omega
   have hbs := (World.cell?_of_block (a := ⟨Bs, 0, none⟩) hnx.2).trans hBs
   have hx := (hnx.1.cell (p := ⟨b, off + p, none⟩) hb).trans (HC.out p (by omega))
   obtain ⟨fn, tmps, assign, body, hy, hR⟩ := hY _ (it xs hd (xs.length - (p + 1))) wr hJs (by rw [its_length]; omega)
   have e1 : (it xs hd (xs.length - (p + 1))).1.1 = p := by show xs.length - 1 - (xs.length - (p + 1)) = p; omega
   have e2 : (it xs hd (xs.length - (p + 1))).1.2 = xs[p]?.getD 0 := by show xs[xs.length - 1 - (xs.length - (p + 1))]?.getD 0 = _; rw [show xs.length - 1 - (xs.length - (p + 1)) = p from by omega]
   unfold itemE at hy
   rw [e1, e2] at hy
   obtain ⟨x, hxx⟩ : ∃ x, x = xs[p]?.getD 0 := ⟨_, rfl⟩
   rw [← hxx] at hx hy
   have hpl : (p : Int) < (xs.length : Int) := by omega
   clear e1 e2 hxx ht
   have HX := Lib.hid hnx
   have HB := Lib.hid hBs
   clear hnx hBs
   gi_wp2
   refine hR.mono ?_
   have hsucc := its_succ xs hd (xs.length - (p + 1))
   rw [show xs.length - (p + 1) + 1 = xs.length - p from by omega] at hsucc
   rintro e W3 (⟨rfl, hJ3, hk3⟩ | ⟨rfl, hJx3⟩)
   ·
    rw [← hsucc] at hJ3
    clear hsucc
    gi_wp2
    go_roundw
    case rel => exact ⟨p, (p : Int) - 1, by omega, rfl, rfl, hJ3, HX.out.trans hk3⟩
    case measure => simp [intOf] <;> omega
   ·
    rw [← hsucc] at hJx3
    clear hsucc
    gi_wp2
    refine bodyPost_ret (results_none rfl _ _ _) rfl ?_
    exact ⟨⟨_, rfl⟩, .inr ⟨_, ⟨xs.length - p, by omega, rfl⟩, hJx3⟩⟩
  ·
   obtain rfl : m = 0 := by omega
   obtain rfl : t = -1 := by omega
   clear ht hm hp hBs
   gi_wp2
   go_end0
   exact ⟨⟨_, rfl⟩, .inl ⟨_, rfl, by simpa using hJs⟩⟩
set_option maxRecDepth 100000 in
set_option maxHeartbeats 1000000 in
theorem back1_nil_in (F : Fence) (n : Nat) (h46 : F.fn 135) (hro : F.round = none) (l Bs cap : Nat) (A : Option Addr) (W : World) (hBs : W.cell? ⟨Bs, 0, none⟩ = some (.slice A 0 cap)) (J : World → Prop) (h0 : J W) :
  CallsIn F n Tryz.prog 135 #[.func (.yield l) #[] #[], .pointer (some ⟨Bs, 0, none⟩)] W fun e W' => (∃ v, e = .returned v) ∧ J W' := by
 refine callsIn_of_wp Tryz.func135 rfl h46 ?_ hro
 simp only [Tryz.ntmps135, List.size_toArray, List.length_cons, List.length_nil, Nat.reduceAdd, Nat.reduceSub, Array.replicate_succ, Array.replicate_zero, List.push_toArray, List.append_toArray, List.nil_append, List.cons_append]
 gi_wp2
 gi_loopw [3] (fun i wr => i = .int .i64 (-1) ∧ J wr) (fun _ _ => 0)
 case atStart => exact ⟨rfl, h0⟩
 case round =>
  obtain ⟨rfl, hJs⟩ := hrel
  gi_wp2
  go_end0
  exact ⟨⟨_, rfl⟩, hJs⟩
set_option maxHeartbeats 1000000 in
theorem back_any (A : Option Addr) (len cap : Nat) (w : World) :
  Calls Tryz.prog 128 #[.slice A len cap] w fun e w' => e = .returned (.func (.func 135) #[] #[.pointer (some ⟨w.heap.size, 0, none⟩)]) ∧ w' = w.alloc (.cells #[.slice A len cap] 40) := by
 go_enter Tryz.func128, Tryz.ntmps128
 go_wp2
 go_ret
 exact ⟨rfl, rfl⟩
theorem back_stops (F : Fence) (n : Nat) (h46 : F.fn 135) (hro : F.round = none) (hn : 1 ≤ n) (Bs n₀ cap : Nat) (A : Option Addr) (xs : List Nat) (hd : Dig xs) (hlen : xs.length ≤ 1000000) (w0 w : World) (hBs : Bs < w.heap.size) (hn₀ : n₀ ≤ w.heap.size)
  (hc : w.cell? ⟨Bs, 0, none⟩ = some (.slice A xs.length cap)) (hU : Us w0 A cap xs) (h00 : w0.heap.size = n₀) (hb0 : Below n₀ w0 w) :
  SeqStopsK F n Tryz.prog 135 #[.pointer (some ⟨Bs, 0, none⟩)] (itemE (n := xs.length)) (BackK n₀ Bs) (fun ys => ys = its xs hd xs.length) (fun pre => ∃ k, k ≤ xs.length ∧ pre = its xs hd k) xs.length w := fun l J Jx W hW _ _ hY h0 => by
 have hc' := (hW.cell (p := ⟨Bs, 0, none⟩) hBs).trans hc
 rcases Nat.eq_zero_or_pos xs.length with hz | hz
 ·
  rw [hz] at hc'
  refine (back1_nil_in F n h46 hro l Bs cap A W hc' (fun W' => J [] W') h0).mono fun e W' ⟨he, hj⟩ => ⟨he, .inl ⟨_, rfl, ?_⟩⟩
  rw [hz]
  exact hj
 ·
  obtain ⟨b, off, rfl, hb, hcs⟩ := hU.at_ hz
  rw [h00] at hb
  exact back1_in F n h46 hro hn l Bs n₀ b off cap xs hd hlen hb J Jx hY W hc' (fun j hj => ((hb0.trans (hW.mono hn₀)).cell (p := ⟨b, off + j, none⟩) hb).trans (hcs j hj)) h0
theorem calls_of_wide {P : Program} {f : FuncId} {fn : Func} {c : Code} {args : Array Value} {w : World} {R : Ending → World → Prop} (hf : P.funcs[f]? = some fn) (hb : fn.body = some c)
  (h : c.wp P (bodyPostM Fence.wide 4 P fn R) { tmps := args ++ Array.replicate (fn.ntmps - args.size) undef, defers := [] } w) : Calls P f args w R :=
 (callsIn_wide (n := 4)).1 (callsIn_of_wp_marks hf hb trivial (wpIn_wide.2 h) rfl)
end Go.Proofs.YtmfncapgikobkaaGreat

namespace Go.Proofs.YtmfncapgikobkaaGreat
set_option maxRecDepth 100000
set_option linter.unusedVariables false
set_option linter.unusedSimpArgs false
open Go.RowKit Go.Shelf Num
attribute [local go_sem] Oper.semAt_some
theorem its_zero {xs : List Nat} {hd : Dig xs} {k : Nat} (hk : k ≤ xs.length) (h : ∀ y ∈ its xs hd k, y.1.2 = 0) : ∀ j, xs.length - k ≤ j → j < xs.length → xs[j]?.getD 0 = 0 := by
 intro j h1 h2
 have hm : it xs hd (xs.length - 1 - j) ∈ its xs hd k := List.mem_map.2 ⟨_, List.mem_range.2 (by omega), rfl⟩
 have := h _ hm
 unfold it at this
 simp only [show xs.length - 1 - (xs.length - 1 - j) = j from by omega] at this
 exact this
theorem trim_none {xs : List Nat} {hd : Dig xs} (h : ∀ y ∈ its xs hd xs.length, y.1.2 = 0) : val xs = 0 := by
 have := val_cut (xs := xs) (k := 0) (Nat.zero_le _) (fun j _ hl => its_zero (Nat.le_refl _) h j (by omega) hl)
 rw [← this]; rfl
theorem trim_some {xs : List Nat} {hd : Dig xs} {k : Nat} {pre : List (Item xs.length)} {x : Item xs.length} (hk : k ≤ xs.length) (he : pre ++ [x] = its xs hd k) (hp : ∀ y ∈ pre, y.1.2 = 0) (hx : x.1.2 ≠ 0) :
  x.1.1 < xs.length ∧ x.1.2 = xs[x.1.1]?.getD 0 ∧ Canon (xs.take (x.1.1 + 1)) ∧ val (xs.take (x.1.1 + 1)) = val xs := by
 cases k with
 | zero => simp [its] at he
 | succ k =>
  rw [its_succ] at he
  obtain ⟨e1, e2⟩ := List.append_inj' he rfl
  simp only [List.cons.injEq, and_true] at e2
  subst e1
  subst e2
  have hz := its_zero (hd := hd) (k := k) (by omega) hp
  unfold it at hx ⊢
  simp only at hx ⊢
  refine ⟨by omega, trivial, canon_take (by omega) hx, val_cut (by omega) (fun j h1 h2 => hz j (by omega) h2)⟩
def trimI (A : Option Addr) (c B0 : Nat) (xs : List Nat) (w : World) (pre : List (Item xs.length)) (W : World) : Prop :=
 ((∀ y ∈ pre, y.1.2 = 0) ∧ W.cell? ⟨B0, 0, none⟩ = some (.slice A xs.length c) ∧ W.cell? ⟨B0 + 1, 0, none⟩ = some (.slice none 0 0) ∧ W.frozen? ⟨B0 + 1, 0, none⟩ = false) ∧ Below w.heap.size w W
def trimX (A : Option Addr) (c B0 : Nat) (xs : List Nat) (w : World) (cd : Code) (pre : List (Item xs.length)) (W : World) : Prop :=
 (cd = .ret ∧ ∃ p x, pre = p ++ [x] ∧ (∀ y ∈ p, y.1.2 = 0) ∧ x.1.2 ≠ 0 ∧ W.cell? ⟨B0 + 1, 0, none⟩ = some (.slice A (x.1.1 + 1) c)) ∧ Below w.heap.size w W
def RetT (A : Option Addr) (c : Nat) (xs : List Nat) (w : World) (e : Ending) (w' : World) : Prop :=
 ∃ A' c' rs, e = .returned (.slice A' rs.length c') ∧ (∀ W, Us W A c xs → Us W A' c' rs) ∧ Canon rs ∧ val rs = val xs ∧ rs.length ≤ xs.length ∧ Below w.heap.size w w'
def RetTF (A : Option Addr) (c : Nat) (xs : List Nat) (w : World) (e : Ending) (w' : World) : Prop :=
 ∃ A' c' rs, e = .returned (.slice A' rs.length c') ∧ (∀ W, Us W A c xs → Us W A' c' rs) ∧ Canon rs ∧ val rs = val xs ∧ rs.length ≤ xs.length ∧ Below w.heap.size w w' ∧ (A' = A ∨ A' = none)
theorem Us.take {w : World} {A : Option Addr} {c : Nat} {xs : List Nat} (h : Us w A c xs) {k : Nat} (hk : k ≤ xs.length) : Us w A c (xs.take k) := by
 refine ⟨h.1.take k, ?_, h.2.2.1, fun hn => ?_⟩
 ·
  have := h.2.1
  simp only [List.length_map, List.length_take] at this ⊢
  omega
 ·
  simp only [List.length_map, List.length_take] at hn
  obtain ⟨b, off, e, hb, hc⟩ := h.2.2.2 (by simp; omega)
  refine ⟨b, off, e, hb, fun j u hu => hc j u ?_⟩
  rw [List.map_take, List.getElem?_take] at hu
  split at hu
  ·
   exact hu
  ·
   cases hu
set_option maxRecDepth 100000 in
set_option maxHeartbeats 2000000 in
theorem trim_subF (A : Option Addr) (c : Nat) (xs : List Nat) (w : World) (h : Us w A c xs) (hl : xs.length ≤ 1000000) :
  Calls Tryz.prog 107 #[.slice A xs.length c] w (RetTF A c xs w) := by
 refine (callsIn_wide (n := 4)).1 ?_
 have hd := h.1
 obtain ⟨hcap1, hcap2⟩ := h.cap
 have HH := Lib.hid h
 clear h
 refine callsIn_of_wp_marks Tryz.func107 rfl trivial ?_ rfl
 simp only [Tryz.ntmps107, List.size_toArray, List.length_cons, List.length_nil, Nat.reduceAdd, Nat.reduceSub, Array.replicate_succ, Array.replicate_zero, List.push_toArray, List.append_toArray, List.nil_append, List.cons_append]
 gi_wp2_with (refine ⟨trivial, ?_⟩; gi_at_call 128; refine (callsIn_wide.2 (back_any _ _ _ _)).mono ?_; rintro e w' ⟨rfl, rfl⟩)
 have c0 := cell_new_l w (.slice A xs.length c) 40
 have c1 := cell_new_l (w.alloc (.cells #[.slice A xs.length c] 40)) (.slice none 0 0) 40
 have c2 := cell_new_l ((w.alloc (.cells #[.slice A xs.length c] 40)).alloc (.cells #[.slice none 0 0] 40)) (.slice A xs.length c) 40
 simp only [World.size_alloc] at c1 c2
 have hB0 : Below w.heap.size w (((w.alloc (.cells #[.slice A xs.length c] 40)).alloc (.cells #[.slice none 0 0] 40)).alloc (.cells #[.slice A xs.length c] 40)) := (((Below.refl _ w).alloc (Nat.le_refl _) _).alloc (by simp) _).alloc (by simp; omega) _
 refine wpIn_rangeFunc_ownF rfl (by decide) (gf := 135) (lb := #[.pointer (some ⟨w.heap.size + 1 + 1, 0, none⟩)]) rfl trivial (enters_of Tryz.func135 (by kernel_rfl) rfl)
  (back_stops Fence.wide 3 trivial rfl (by decide) (w.heap.size + 1 + 1) w.heap.size c A xs hd hl w _ (by simp) (by simp; omega) c2.1 HH.out rfl hB0) BackK.trans (BackK.b (by simp; omega) (by simp)) (Below.refl _ _) (fun _ => rfl)
  (trimI A c w.heap.size xs w) (trimX A c w.heap.size xs w)
  (OwnFrom.and (Own.from (fun s A B row hs hg hr => ⟨hs.1, cell_kept hs.2.1 hg hr, cell_kept hs.2.2.1 hg hr, (frozen_kept hs.2.2.1 hg hr).trans hs.2.2.2⟩) _) (ownFrom_below (Nat.le_refl _) (by simp; omega)))
  (fun cd => OwnFrom.and (Own.from (fun s A B row hs hg hr => ⟨hs.1, by obtain ⟨p, x, e1, e2, e3, e4⟩ := hs.2; exact ⟨p, x, e1, e2, e3, cell_kept e4 hg hr⟩⟩) _) (ownFrom_below (Nat.le_refl _) (by simp; omega)))
  ⟨⟨by simp, cell_alloc_l _ (cell_alloc_l _ c0.1), cell_alloc_l _ c1.1, frozen_alloc_l _ c1.1 c1.2⟩, hB0⟩
  (fun x => { tmps := #[.slice A xs.length c, .pointer (some ⟨w.heap.size, 0, none⟩), .pointer (some ⟨w.heap.size + 1, 0, none⟩), .int .i64 (x.1.1 : Int), .int .u32 (x.1.2 : Int), .slice A xs.length c, .func (.func 135) #[] #[.pointer (some ⟨w.heap.size + 1 + 1, 0, none⟩)], .int .i64 (x.1.1 : Int), .int .u32 (x.1.2 : Int), undef, undef, undef, undef, undef, undef], defers := [] }) ?assign ?body ?done ?stop
 case assign =>
  intro l x W K hK
  unfold itemE
  gi_wp2
  exact hK
 case body =>
  rintro l pre x W ⟨⟨hz, hca, hcr, hfr⟩, hB⟩ hpre
  obtain ⟨⟨i, y⟩, hxi⟩ := x
  have hi' : i < xs.length := hxi.1 (by omega)
  have hy : y < 4294967296 := hxi.2
  dsimp only
  have HZ := Lib.hid hz
  have HB := Lib.hid hB
  clear hz hB c0 c1 c2 hB0
  by_cases hy0 : y = 0
  ·
   subst hy0
   gi_wp2
   refine ⟨KeepsOthers.refl _, BackK.refl _ _ _, ⟨fun z hz => ?_, hca, hcr, hfr⟩, HB.out⟩
   rcases List.mem_append.1 hz with hz | hz
   ·
    exact HZ.out z hz
   ·
    simp only [List.mem_singleton] at hz; subst hz; rfl
  ·
   have t1 : ((y : Int) != 0) = true := by rw [bne_iff_ne]; omega
   have hic : (i : Int) + 1 ≤ (c : Int) := by omega
   gi_wp2
   refine ⟨KeepsOthers.setCell _ _ _, ⟨rfl, pre, _, rfl, HZ.out, hy0, World.cell?_setCell_same' _ _ _ (by rw [hcr]; rfl)⟩, HB.out.setCell (p := ⟨w.heap.size + 1, 0, none⟩) (by simp) _⟩
 case done =>
  rintro D ys W hD rfl ⟨⟨hz, hca, hcr, hfr⟩, hB⟩ hK
  have hv := trim_none hz
  have HZ := Lib.hid hz
  have HB := Lib.hid hB
  have HV := Lib.hid hv
  clear hz hB hv c0 c1 c2 hB0
  gi_wp2
  have hK' := (KeepsOthers.setCell W ⟨w.heap.size + 1, 0, none⟩ (.slice none 0 0)).same D _ hK rfl
  refine ⟨by simp, .inl ⟨_, _, rfl, run_takeDeferred hK', ?_⟩⟩
  have hc5 := cell_kept (World.cell?_setCell_same' W ⟨w.heap.size + 1, 0, none⟩ (.slice none 0 0) (by rw [hcr]; rfl)) (grownBy_putObj' _ D (.deferred none)) (fun r e => by cases e; exact ⟨_, hK', rfl⟩)
  refine ⟨.slice none 0 0, ?_, none, 0, [], rfl, fun W _ => Us.nil W, canon_nil, by rw [HV.out]; rfl, Nat.zero_le _, (HB.out.setCell (p := ⟨w.heap.size + 1, 0, none⟩) (by simp) _).trans (belowK_b (w := w) (Nat.le_refl _) _ D _ _ (by simp at hD; omega) hK' rfl rfl), .inr rfl⟩
  simp [results, Tryz.f107, go_sem, hc5]
 case stop =>
  rintro D cd pre W hD ⟨k, hk, hpre⟩ ⟨⟨rfl, p, x, e1, e2, e3, hcr⟩, hB⟩ hK
  obtain ⟨g1, g2, g3, g4⟩ := trim_some hk (e1.symm.trans hpre) e2 e3
  have HB := Lib.hid hB
  clear hB e1 e2 hpre c0 c1 c2 hB0
  gi_wp2
  refine ⟨by simp, .inl ⟨_, _, rfl, run_takeDeferred hK, ?_⟩⟩
  have hc5 := cell_kept hcr (grownBy_putObj' _ D (.deferred none)) (fun r e => by cases e; exact ⟨_, hK, rfl⟩)
  have hbw := HB.out.trans (belowK_b (w := w) (Nat.le_refl _) W D _ (.deferred none) (by simp at hD; omega) hK rfl rfl)
  refine ⟨.slice A (x.1.1 + 1) c, ?_, A, c, xs.take (x.1.1 + 1), ?_, fun W hW => hW.take (by omega), g3, g4, by rw [List.length_take]; omega, hbw, .inl rfl⟩
  ·
   simp [results, Tryz.f107, go_sem, hc5]
  ·
   rw [List.length_take, Nat.min_eq_left (by omega)]
theorem trim_sub (A : Option Addr) (c : Nat) (xs : List Nat) (w : World) (h : Us w A c xs) (hl : xs.length ≤ 1000000) :
  Calls Tryz.prog 107 #[.slice A xs.length c] w (RetT A c xs w) :=
 (trim_subF A c xs w h hl).mono fun _ _ ⟨A', c', rs, e, hU, hc, hv, hl, hb, _⟩ => ⟨A', c', rs, e, hU, hc, hv, hl, hb⟩
theorem trim_any (A : Option Addr) (c : Nat) (xs : List Nat) (w : World) (h : Us w A c xs) (hl : xs.length ≤ 1000000) :
  Calls Tryz.prog 107 #[.slice A xs.length c] w (RetU (val xs) w) :=
 (trim_sub A c xs w h hl).mono fun _ _ ⟨A', c', rs, e, hU, hc, hv, _, hb⟩ => ⟨A', c', rs, e, hU _ (h.below hb), hc, hv, hb⟩
theorem trim_of {A : Option Addr} {c n : Nat} {xs : List Nat} {w : World} (h : Us w A c xs) (hn : xs.length = n) (hl : n ≤ 1000000) :
  Calls Tryz.prog 107 #[.slice A n c] w (RetU (val xs) w) := by
 subst hn
 exact trim_any A c xs w h hl
def RetUF (n : Nat) (A : Option Addr) (w : World) (e : Ending) (w' : World) : Prop :=
 ∃ A' c rs, e = .returned (.slice A' rs.length c) ∧ Us w' A' c rs ∧ Canon rs ∧ val rs = n ∧ Below w.heap.size w w' ∧ (A' = A ∨ A' = none)
theorem trim_ofF {A : Option Addr} {c n : Nat} {xs : List Nat} {w : World} (h : Us w A c xs) (hn : xs.length = n) (hl : n ≤ 1000000) :
  Calls Tryz.prog 107 #[.slice A n c] w (RetUF (val xs) A w) := by
 subst hn
 exact (trim_subF A c xs w h hl).mono fun _ _ ⟨A', c', rs, e, hU, hc, hv, _, hb, hf⟩ => ⟨A', c', rs, e, hU _ (h.below hb), hc, hv, hb, hf⟩
end Go.Proofs.YtmfncapgikobkaaGreat

namespace Go.Proofs.YtmfncapgikobkaaGreat
set_option maxRecDepth 100000
set_option linter.unusedVariables false
set_option linter.unusedSimpArgs false
open Go.RowKit Num
theorem wpList_append_rd {P : Program} (w : World) {ops : Array Oper} {rest : List Oper} {o : Oper} {a : Act} {Q : Exit → Act → World → Prop} (hgd : o.guard = none) (s x : Operand) (t : TypeId)
  (ho : o.op = .call { callee := .builtin .append, args := #[s, x], argTypes := #[t, t] })
  (base : Nat) (e : TypeId) (i : TypeInfo) (z : Value) (bytes : Nat) (ht : P.underlying t = some (.slice e)) (hi : P.info? e = some i) (hz : i.zero = some z)
  (hsize : i.size = 1) (hby : i.bytes = bytes) (hzs : z.cells.size = 1)
  (v : Value) (n : Nat) (xs : List Value) (hs : a.eval s = v) (hown : w.ownsRow base e 1 v n xs)
  (A : Option Addr) (m c : Nat) (news : List Value) (hx : a.eval x = .slice A m c) (hr : Rd w A c news) (hm : m = news.length) (h1 : ∀ u ∈ news, u.oneCell' = true)
  (h63 : n + m ≤ maxLen) (hbytes : (n + m) * bytes ≤ 140737488355328) (hbase : base ≤ w.heap.size)
  (h : ∀ v' w', w'.ownsRow base e 1 v' (n + m) (xs ++ news) → w.grownBy w' v.ownBlock → (v'.ownBlock = v.ownBlock ∨ v'.ownBlock = some w.heap.size) → wpList P ops Q rest (a.put o.dst v') w') : wpList P ops Q (o :: rest) a w := by
 have run : ∃ v' w', (Builtin.append_ #[t, t] o.type #[v, .slice A m c]).run P w = .ok v' w' ∧ w'.ownsRow base e 1 v' (n + m) (xs ++ news) ∧ w.grownBy w' v.ownBlock ∧ (v'.ownBlock = v.ownBlock ∨ v'.ownBlock = some w.heap.size) := by
  subst hm
  cases A with
  | none =>
   have hn : news = [] := by
    cases news with
    | nil => rfl
    | cons u r => obtain ⟨b, off, he, _⟩ := hr.2.2 (by simp); cases he
   subst hn
   refine ⟨v, w, ?_, by simpa using hown, World.grownBy.refl w _, .inl rfl⟩
   rcases hown.2 with ⟨rfl, rfl⟩ | ⟨g, cap, cur, rfl, _, _, hnc, _⟩
   ·
    simp [Builtin.append_, run_underlying ht, sizeOf, typeInfo, hi, Builtin.lenOf, Builtin.firstCells]
   ·
    simp [Builtin.append_, run_underlying ht, sizeOf, typeInfo, hi, Builtin.lenOf, Builtin.firstCells, hnc, storeCells]
  | some ad =>
   have hcells : ∀ j u, news[j]? = some u → w.cell? (ad.add j) = some u := by
    intro j u hu
    obtain ⟨b, off, he, _, hc⟩ := hr.2.2 (by rcases List.getElem?_eq_some_iff.1 hu with ⟨hlt, _⟩; omega)
    cases he
    rw [show (⟨b, off, none⟩ : Addr).add j = ⟨b, off + j, none⟩ from by unfold Addr.add; split <;> simp_all]
    exact hc j u hu
   obtain ⟨v', w', hrun, h2, h3, _, h5⟩ := run_append_own_at (P := P) w base t o.type e i z 1 bytes ht hi hz hsize hby hzs (by decide) v n xs hown ad news.length c news (by omega) hcells h1 h63 hbytes hbase
   exact ⟨v', w', hrun, h2, h3, h5⟩
 obtain ⟨v', w', hrun, h2, h3, h4⟩ := run
 refine wpList_plain hgd fun K hK => ?_
 unfold Oper.wp execOp
 simp only [ho, resolve, invoke, builtin, Sem.run_bind, Sem.run_pure, Result.andThen_ok, List.map_toArray, List.map_cons, List.map_nil, hs, hx, hrun]
 exact hK _ _ (h v' w' h2 h3 h4)
theorem u32_one (xs : List Nat) : ∀ u ∈ xs.map u32v, u.oneCell' = true := fun u hu => by obtain ⟨x, _, rfl⟩ := List.mem_map.1 hu; rfl
theorem bool_one (xs : List Bool) : ∀ u ∈ xs.map Value.bool, u.oneCell' = true := fun u hu => by obtain ⟨x, _, rfl⟩ := List.mem_map.1 hu; rfl
set_option maxRecDepth 100000 in
set_option maxHeartbeats 800000 in
theorem norm_any (A : Option Addr) (c : Nat) (xs : List Nat) (w : World) (h : Us w A c xs) (hl : xs.length ≤ 1000000) :
  Calls Tryz.prog 79 #[.slice A xs.length c] w (RetU (val xs) w) := by
 obtain ⟨i0, hi, hz0, hz1, hz2⟩ := info_parts Tryz.infoU
 have HH := Lib.hid h
 have HI := Lib.hid (And.intro hi (And.intro hz0 (And.intro hz1 hz2)))
 clear h hi hz0 hz1 hz2
 go_enter Tryz.func79, Tryz.ntmps79
 go_wp2_with (first
  | (go_at_call 107; refine (trim_sub A c xs _ HH.out hl).mono ?_; rintro e w1 ⟨A1, c1, r1, rfl, u1, k1, v1, l1, b1⟩)
  | (at_builtin; refine wpList_append_rd _ rfl _ _ 40 rfl w.heap.size 89 i0 _ 4 Tryz.underlying40 HI.out.1 HI.out.2.1 HI.out.2.2.1 HI.out.2.2.2 rfl (.slice none 0 0) 0 [] rfl (World.ownsRow_nil _ _ _ _) A1 r1.length c1 (r1.map u32v) rfl (u1 _ (HH.out.below b1)).2 (by simp) (u32_one _) (by simp only [maxLen]; omega) (by omega) b1.size ?_; intro v2 w2 own2 grow2 at2))
 obtain ⟨A2, c2, rfl⟩ := own_shape own2
 go_ret
 simp only [Nat.zero_add] at own2 ⊢
 refine ⟨A2, c2, r1, rfl, ⟨(u1 _ HH.out).1, Rd.own own2⟩, k1, v1, b1.grown grow2 b1.size (fun k hk => ?_)⟩
 cases hk
end Go.Proofs.YtmfncapgikobkaaGreat

namespace Go.Proofs.YtmfncapgikobkaaGreat
set_option maxRecDepth 100000
set_option linter.unusedVariables false
set_option linter.unusedSimpArgs false
open Go.RowKit Num
theorem ownsRow_below {w w' : World} {base : Nat} {e : TypeId} {size : Nat} {v : Value} {n : Nat} {xs : List Value} (h : w.ownsRow base e size v n xs) (hb : Below w.heap.size w w') : w'.ownsRow base e size v n xs := by
 refine ⟨h.1, ?_⟩
 rcases h.2 with h1 | ⟨g, cap, cur, h1, h2, h3, h4⟩
 ·
  exact .inl h1
 ·
  refine .inr ⟨g, cap, cur, h1, h2, (hb.block g ?_).trans h3, h4⟩
  rcases Nat.lt_or_ge g w.heap.size with hlt | hge
  ·
   exact hlt
  ·
   rw [Array.getElem?_eq_none hge] at h3; cases h3
def OwnU (w : World) (base g n : Nat) (rs : List Nat) : Prop :=
 Dig rs ∧ rs.length = n ∧ w.ownsRow base 89 1 (.slice (some ⟨g, 0, none⟩) n n) n (rs.map u32v)
theorem OwnU.base {w : World} {base g n : Nat} {rs : List Nat} (h : OwnU w base g n rs) : base ≤ g := by
 rcases h.2.2.2 with ⟨h1, _⟩ | ⟨g', cap, cur, h1, h2, h3, h4⟩
 ·
  cases h1
 ·
  simp only [Value.slice.injEq, Option.some.injEq, Addr.mk.injEq, and_true, true_and] at h1
  obtain ⟨rfl, rfl⟩ := h1
  exact h2
theorem OwnU.lt {w : World} {base g n : Nat} {rs : List Nat} (h : OwnU w base g n rs) : g < w.heap.size := by
 rcases h.2.2.2 with ⟨h1, _⟩ | ⟨g', cap, cur, h1, h2, h3, h4⟩
 ·
  cases h1
 ·
  simp only [Value.slice.injEq, Option.some.injEq, Addr.mk.injEq, and_true, true_and] at h1
  obtain ⟨rfl, rfl⟩ := h1
  rcases Nat.lt_or_ge g w.heap.size with hlt | hge
  ·
   exact hlt
  ·
   rw [Array.getElem?_eq_none hge] at h3; cases h3
theorem OwnU.cell {w : World} {base g n : Nat} {rs : List Nat} (h : OwnU w base g n rs) {k : Nat} (hk : k < n) : w.cell? ⟨g, k, none⟩ = some (.int .u32 (rs[k]?.getD 0 : Nat)) := by
 have hl : k < rs.length := by have := h.2.1; omega
 rw [h.2.2.cellAt k (by omega), List.getElem?_map, List.getElem?_eq_getElem hl]
 rfl
theorem OwnU.free {w : World} {base g n : Nat} {rs : List Nat} (h : OwnU w base g n rs) (k : Nat) : w.frozen? ⟨g, k, none⟩ = false := h.2.2.frozenAt k
theorem OwnU.set {w : World} {base g n : Nat} {rs : List Nat} (h : OwnU w base g n rs) (k : Nat) {u : Nat} (hu : u < 4294967296) : OwnU (w.setCell ⟨g, k, none⟩ (.int .u32 (u : Int))) base g n (rs.set k u) := by
 refine ⟨h.1.set k hu, by simpa using h.2.1, ?_⟩
 rw [List.map_set]
 exact (h.2.2.stored k _).1
theorem OwnU.below {w w' : World} {base g n : Nat} {rs : List Nat} (h : OwnU w base g n rs) (hb : Below w.heap.size w w') : OwnU w' base g n rs := ⟨h.1, h.2.1, ownsRow_below h.2.2 hb⟩
theorem OwnU.reads {w : World} {base g n : Nat} {rs : List Nat} (h : OwnU w base g n rs) : Us w (some ⟨g, 0, none⟩) n rs := ⟨h.1, Rd.own h.2.2⟩
theorem OwnU.drew {w : World} {base g n : Nat} {rs : List Nat} (h : OwnU w base g n rs) : OwnU w.drew base g n rs := h
theorem OwnU.far {w : World} {base g n : Nat} {rs : List Nat} (h : OwnU w base g n rs) {p : Addr} (hp : p.block ≠ g) (u : Value) : OwnU (w.setCell p u) base g n rs := by
 refine ⟨h.1, h.2.1, h.2.2.1, ?_⟩
 rcases h.2.2.2 with ⟨h1, _⟩ | ⟨g', cap, cur, h1, h2, h3, h4⟩
 ·
  cases h1
 ·
  simp only [Value.slice.injEq, Option.some.injEq, Addr.mk.injEq, and_true, true_and] at h1
  obtain ⟨rfl, rfl⟩ := h1
  exact .inr ⟨g, n, cur, rfl, h2, (Below.heap_setCell w p u g (fun e => hp e.symm)).trans h3, h4⟩
theorem madeU (n : Nat) : (madeCells (Value.cells (.int .u32 0)) (n * 1)).toList = (List.replicate n 0).map u32v := by
 rw [Nat.mul_one]
 refine List.ext_getElem (by simp [madeCells]) fun i h1 h2 => ?_
 simp [madeCells, Value.cells, Nat.mod_one]
theorem OwnU.made {w : World} {base g n : Nat} (h : w.ownsRow base 89 1 (.slice (some ⟨g, 0, none⟩) n n) n (madeCells (Value.cells (.int .u32 0)) (n * 1)).toList) : OwnU w base g n (List.replicate n 0) :=
 ⟨Dig.replicate n, by simp, by rw [← madeU]; exact h⟩
theorem val_take_set {rs : List Nat} {k : Nat} (u : Nat) (hk : k < rs.length) : val ((rs.set k u).take (k + 1)) = val (rs.take k) + 4294967296 ^ k * u := by
 rw [val_take_succ (by simpa using hk), List.take_set_of_le (by omega), List.getElem?_set]
 simp [hk]
theorem take_all {rs : List Nat} {n : Nat} (h : rs.length = n) : rs.take n = rs := List.take_of_length_le (by omega)
end Go.Proofs.YtmfncapgikobkaaGreat

namespace Go.Proofs.YtmfncapgikobkaaGreat
set_option maxRecDepth 100000
set_option linter.unusedVariables false
set_option linter.unusedSimpArgs false
open Go.RowKit Num
theorem mul_step {p w1 w0 cy r x m c0 : Nat} (h : r + p * cy = w0 * m + c0) (hw : w1 = w0 + p * x) : (r + p * ((x * m + cy) % 4294967296)) + (p * 4294967296) * ((x * m + cy) / 4294967296) = w1 * m + c0 := by
 have e := Nat.mod_add_div (x * m + cy) 4294967296
 have e2 : p * ((x * m + cy) % 4294967296) + p * (4294967296 * ((x * m + cy) / 4294967296)) = p * (x * m + cy) := by rw [← Nat.mul_add, e]
 subst hw
 rw [Nat.mul_assoc, Nat.add_mul, Nat.mul_assoc p x m]
 rw [Nat.mul_add] at e2
 omega
def MulRel (n m c0 : Nat) (xs : List Nat) (w : World) (g k cy : Nat) (rs : List Nat) (wr : World) : Prop :=
 cy < 4294967296 ∧ OwnU wr w.heap.size g (n + 1) rs ∧ val (rs.take k) + 4294967296 ^ k * cy = val (xs.take k) * m + c0 ∧ Below w.heap.size w wr
theorem MulRel.next {n m c0 k cy g : Nat} {xs rs : List Nat} {w wr : World} (h : MulRel n m c0 xs w g k cy rs wr) (hn : xs.length = n) (hk : k < n) (hm : m < 4294967296) (hd : Dig xs) {x z : Nat} (hx : x = xs[k]?.getD 0) (hz : z = x * m + cy) :
  MulRel n m c0 xs w g (k + 1) (z / 4294967296) (rs.set k (z % 4294967296)) (wr.setCell ⟨g, k, none⟩ (.int .u32 ((z % 4294967296 : Nat) : Int))) := by
 obtain ⟨h1, h2, h3, h4⟩ := h
 have hl := h2.2.1
 have hxl : x < 4294967296 := by rw [hx]; exact hd.getD k
 have hp : x * m ≤ 4294967295 * 4294967295 := Nat.mul_le_mul (by omega) (by omega)
 refine ⟨by omega, h2.set k (Nat.mod_lt _ (by decide)), ?_, h4.setCell (p := ⟨g, k, none⟩) h2.base _⟩
 rw [val_take_set _ (by omega), Nat.pow_succ, hz]
 exact mul_step h3 (by rw [val_take_succ (by omega), ← hx])
theorem MulRel.last {n m c0 cy g : Nat} {xs rs : List Nat} {w wr : World} (h : MulRel n m c0 xs w g n cy rs wr) (hn : xs.length = n) :
  OwnU (wr.setCell ⟨g, n, none⟩ (.int .u32 (cy : Int))) w.heap.size g (n + 1) (rs.set n cy) ∧ val (rs.set n cy) = val xs * m + c0 ∧ Below w.heap.size w (wr.setCell ⟨g, n, none⟩ (.int .u32 (cy : Int))) := by
 obtain ⟨h1, h2, h3, h4⟩ := h
 have h5 := h2.set n h1
 refine ⟨h5, ?_, h4.setCell (p := ⟨g, n, none⟩) h2.base _⟩
 have e := val_take_set (rs := rs) (k := n) cy (by have := h2.2.1; omega)
 rw [take_all (n := n + 1) (by simpa using h2.2.1)] at e
 rw [e, h3, take_all hn]
end Go.Proofs.YtmfncapgikobkaaGreat

namespace Go.Proofs.YtmfncapgikobkaaGreat
set_option maxRecDepth 100000
set_option linter.unusedVariables false
set_option linter.unusedSimpArgs false
open Go.RowKit Num
set_option maxHeartbeats 400000 in
theorem at_any (A : Option Addr) (c : Nat) (xs : List Nat) (i : Int) (w : World) (h : Us w A c xs) (hl : xs.length ≤ 1000000) (h0 : 0 ≤ i) :
  Calls Tryz.prog 106 #[.slice A xs.length c, .int .i64 i] w fun e w' => e = .returned (.int .u32 (xs[i.toNat]?.getD 0 : Nat)) ∧ w = w' := by
 obtain ⟨k, rfl⟩ := Int.eq_ofNat_of_zero_le h0
 rw [Int.toNat_natCast]
 obtain ⟨x, hx⟩ : ∃ x, x = xs[k]?.getD 0 := ⟨_, rfl⟩
 by_cases hlt : k < xs.length
 ·
  obtain ⟨b, off, rfl, hb, hc⟩ := h.at_ (by omega)
  have hck := hc k hlt
  rw [← hx] at hck ⊢
  clear hc h hx
  go_enter Tryz.func106, Tryz.ntmps106
  go_wp2
  go_ret
  exact ⟨rfl, rfl⟩
 ·
  rw [List.getElem?_eq_none (by omega)] at hx ⊢
  clear h hx
  go_enter Tryz.func106, Tryz.ntmps106
  go_wp2
  go_ret
  exact ⟨rfl, rfl⟩
def shiftB (n : Int) : Bool := decide (0 ≤ n ∧ n ≤ 10000)
set_option maxHeartbeats 400000 in
theorem shift_any (n : Int) (w : World) :
  Calls Tryz.prog 119 #[.int .i64 n] w fun e w' => e = .returned (.bool (shiftB n)) ∧ w = w' := by
 by_cases h0 : 0 ≤ n
 ·
  by_cases h1 : n ≤ 10000
  ·
   have e : shiftB n = true := by simp [shiftB, h0, h1]
   rw [e]; clear e
   go_enter Tryz.func119, Tryz.ntmps119
   go_wp2
   go_ret
   exact ⟨rfl, rfl⟩
  ·
   have e : shiftB n = false := by simp [shiftB, h1]
   rw [e]; clear e
   go_enter Tryz.func119, Tryz.ntmps119
   go_wp2
   go_ret
   exact ⟨rfl, rfl⟩
 ·
  have e : shiftB n = false := by simp [shiftB, h0]
  rw [e]; clear e
  go_enter Tryz.func119, Tryz.ntmps119
  go_wp2
  go_ret
  exact ⟨rfl, rfl⟩
set_option maxHeartbeats 400000 in
theorem rat_any (A : Option Addr) (c : Nat) (bs : List Bool) (i : Int) (w : World) (h : Bl w A c bs) (hl : bs.length ≤ 100000000) :
  Calls Tryz.prog 121 #[.slice A bs.length c, .int .i64 i] w fun e w' => e = .returned (.bool (decide (0 ≤ i) && bs[i.toNat]?.getD false)) ∧ w = w' := by
 by_cases h0 : 0 ≤ i
 ·
  obtain ⟨k, rfl⟩ := Int.eq_ofNat_of_zero_le h0
  rw [Int.toNat_natCast, decide_eq_true h0, Bool.true_and]
  obtain ⟨x, hx⟩ : ∃ x, x = bs[k]?.getD false := ⟨_, rfl⟩
  by_cases hlt : k < bs.length
  ·
   obtain ⟨b, off, rfl, hb, hc⟩ := h.at_ (by omega)
   have hck := hc k hlt
   rw [← hx] at hck ⊢
   clear hc h hx
   go_enter Tryz.func121, Tryz.ntmps121
   go_wp2
   go_ret
   exact ⟨rfl, rfl⟩
  ·
   rw [List.getElem?_eq_none (by omega)] at hx ⊢
   clear h hx
   go_enter Tryz.func121, Tryz.ntmps121
   go_wp2
   go_ret
   exact ⟨rfl, rfl⟩
 ·
  rw [decide_eq_false h0, Bool.false_and]
  clear h
  go_enter Tryz.func121, Tryz.ntmps121
  go_wp2
  go_ret
  exact ⟨rfl, rfl⟩
def rightB (xs : List Nat) : Bool := xs.length == 0 || xs[xs.length - 1]?.getD 0 != 0
set_option maxHeartbeats 400000 in
theorem right_any (A : Option Addr) (c : Nat) (xs : List Nat) (w : World) (h : Us w A c xs) (hl : xs.length ≤ 1000000) :
  Calls Tryz.prog 55 #[.slice A xs.length c] w fun e w' => e = .returned (.bool (rightB xs)) ∧ w = w' := by
 obtain ⟨x, hx⟩ : ∃ x, x = xs[xs.length - 1]?.getD 0 := ⟨_, rfl⟩
 unfold rightB
 by_cases hlt : 0 < xs.length
 ·
  obtain ⟨b, off, rfl, hb, hc⟩ := h.at_ hlt
  have hck := hc (xs.length - 1) (by omega)
  have e0 : (xs.length == 0) = false := by rw [beq_eq_false_iff_ne]; omega
  rw [← hx] at hck ⊢
  rw [e0, Bool.false_or]
  generalize xs.length = n at *
  obtain ⟨m, rfl⟩ : ∃ m, n = m + 1 := ⟨n - 1, by omega⟩
  rw [Nat.add_sub_cancel] at hck
  clear hc h hx e0
  go_enter Tryz.func55, Tryz.ntmps55
  by_cases hx0 : x = 0
  ·
   subst hx0
   go_wp2
   go_ret
   exact ⟨rfl, rfl⟩
  ·
   have hb1 : ((x : Int) == 0) = false := by rw [beq_eq_false_iff_ne]; omega
   have hb2 : ((x : Int) != 0) = true := by rw [bne_iff_ne]; omega
   have e1 : (x != 0) = true := by rw [bne_iff_ne]; omega
   rw [e1]
   clear e1 hx0
   go_wp2
   go_ret
   exact ⟨rfl, rfl⟩
 ·
  have e0 : xs.length = 0 := by omega
  rw [e0]
  clear h hx hl hlt e0
  go_enter Tryz.func55, Tryz.ntmps55
  go_wp2
  go_ret
  exact ⟨rfl, rfl⟩
end Go.Proofs.YtmfncapgikobkaaGreat
