/-
  math/bits' Add32, Sub32, Div32, Len32, and cmp.Compare at int and uint32.
  slices.Backward over limbs: the iterator's contract.
  limb.trim: a without the limbs behind the last one that isn't 0; limb.Norm.
  limb.Cmp: below, as, above.
  append onto a row of the call's own; limb.Norm.
  Rows of limbs that the call made itself.
-/
import Derived.Test.YteekijmhghokkaaDoorLimbA
import Derived.Deep.QuietTactic
import Derived.BigQuiet
import Derived.RangeFuncNested
import Derived.RangeFuncBound
import Derived.RangeFuncCalls
import Derived.RangeFuncLeaves
import Derived.Shelf.Abstract
import Derived.Shelf.RegionOpen
import Derived.OwnWalkIn
import Derived.TacticsInMore
import Derived.LoopNIn
import Derived.LoopIn
import Derived.Deep.DeepCutAuto
import Derived.Deep.RegionWith
import Derived.Deep.RegionHeld3
import Derived.OwnWalk

namespace Go.Proofs.YteekijmhghokkaaDoor
set_option linter.unusedVariables false
set_option linter.unusedSimpArgs false
open Go.RowKit Num
def addDig (x y c : Nat) : Nat := (x + y + c) % 4294967296
def addCar (x y c : Nat) : Nat := (x + y + c) / 4294967296
theorem addDig_lt (x y c : Nat) : addDig x y c < 4294967296 := Nat.mod_lt _ (by decide)
theorem addCar_le {x y c : Nat} (hx : x < 4294967296) (hy : y < 4294967296) (hc : c ≤ 1) : addCar x y c ≤ 1 := by unfold addCar; omega
theorem add_eq (x y c : Nat) : addDig x y c + 4294967296 * addCar x y c = x + y + c := by unfold addDig addCar; omega
def subDig (x y c : Nat) : Nat := (x + 8589934592 - y - c) % 4294967296
def subBor (x y c : Nat) : Nat := if x < y + c then 1 else 0
theorem subDig_lt (x y c : Nat) : subDig x y c < 4294967296 := Nat.mod_lt _ (by decide)
theorem subBor_le (x y c : Nat) : subBor x y c ≤ 1 := by unfold subBor; split <;> omega
theorem sub_eq {x y c : Nat} (hx : x < 4294967296) (hy : y < 4294967296) (hc : c ≤ 1) : subDig x y c + y + c = x + 4294967296 * subBor x y c := by
  unfold subDig subBor; split <;> omega
def divQ (h l m : Nat) : Nat := (4294967296 * h + l) / m
def divR (h l m : Nat) : Nat := (4294967296 * h + l) % m
theorem divQ_lt {h l m : Nat} (hm : h < m) (hl : l < 4294967296) : divQ h l m < 4294967296 := by
  unfold divQ
  rw [Nat.div_lt_iff_lt_mul (by omega)]
  have : 4294967296 * (h + 1) ≤ 4294967296 * m := Nat.mul_le_mul_left _ hm
  omega
theorem divR_lt {h l m : Nat} (hm : h < m) : divR h l m < m := Nat.mod_lt _ (by omega)
theorem div_eq (h l m : Nat) : divQ h l m * m + divR h l m = 4294967296 * h + l := by
  unfold divQ divR
  rw [Nat.mul_comm]
  exact Nat.div_add_mod _ _
theorem join64 {h l : Nat} (hh : h < 4294967296) (hl : l < 4294967296) : bits .or .u64 ((h : Int) * 4294967296) (l : Int) = ((4294967296 * h + l : Nat) : Int) := by
  have e : ((h : Int) * 4294967296) = ((4294967296 * h : Nat) : Int) := by omega
  rw [e, u64_or_nat _ _ (by omega) (by omega), nat_join 32 _ _ (by omega) (by omega)]
theorem wrapq (q : Nat) (h : q < 4294967296) : IntKind.u64.wrap (q : Int) % 4294967296 = (q : Int) := by
  simp only [IntKind.wrap, IntKind.bits, IntKind.signed]
  simp
  omega
set_option maxHeartbeats 800000 in
theorem div32_any (h l m : Nat) (w : World) (hm : h < m) (hl : l < 4294967296) (hmm : m < 4294967296) :
    Calls Tryd.prog 47 #[.int .u32 h, .int .u32 l, .int .u32 m] w fun e w' => e = .returned (.tuple #[.int .u32 (divQ h l m : Nat), .int .u32 (divR h l m : Nat)]) ∧ ∃ n, w' = w.drewN n := by
  have e := join64 (h := h) (l := l) (by omega) hl
  have q1 := divQ_lt hm hl
  have q2 := divR_lt (l := l) hm
  have m0 : ((m : Int) != 0) = true := by rw [bne_iff_ne]; omega
  obtain ⟨z, hz⟩ : ∃ z, z = 4294967296 * h + l := ⟨_, rfl⟩
  have z1 : z < 18446744073709551616 := by omega
  have z2 : (1 : Int) ≤ (m : Int) := by omega
  have key : z / m < 4294967296 → IntKind.u64.wrap ((z : Int) / (m : Int)) % 4294967296 = ((z / m : Nat) : Int) := fun q => by
    rw [← Int.natCast_ediv]
    exact wrapq _ q
  unfold divQ divR at *
  rw [← hz] at e q1 q2 ⊢
  have KEY := Lib.hid (key q1)
  clear hz key
  go_enter Tryd.func47, Tryd.ntmps47
  go_wp2
  go_quiet (fail)
  go_wp2
  go_ret2
  refine ⟨?_, _, rfl⟩
  show Ending.returned (.tuple #[.int .u32 _, .int .u32 _]) = _
  rw [KEY.out]
  rfl
end Go.Proofs.YteekijmhghokkaaDoor

namespace Go.Proofs.YteekijmhghokkaaDoor
set_option linter.unusedVariables false
set_option linter.unusedSimpArgs false
open Go.RowKit Go.Shelf Num
attribute [local go_sem] Oper.semAt_some
/-- What the iterator hands over: a place, and the limb there. -/
abbrev Item (n : Nat) : Type := { x : Nat × Nat // (0 < n → x.1 < n) ∧ x.2 < 4294967296 }
def itemE {n : Nat} (x : Item n) : Array Value := #[.int .i64 (x.1.1 : Int), .int .u32 (x.1.2 : Int)]
def it (xs : List Nat) (hd : Dig xs) (j : Nat) : Item xs.length := ⟨(xs.length - 1 - j, xs[xs.length - 1 - j]?.getD 0), ⟨fun h => by omega, hd.getD _⟩⟩
def its (xs : List Nat) (hd : Dig xs) (k : Nat) : List (Item xs.length) := (List.range k).map (it xs hd)
theorem its_succ (xs : List Nat) (hd : Dig xs) (k : Nat) : its xs hd (k + 1) = its xs hd k ++ [it xs hd k] := by simp [its, List.range_succ]
theorem its_length (xs : List Nat) (hd : Dig xs) (k : Nat) : (its xs hd k).length = k := by simp [its]
/-- What a round keeps for the iterator: what lay below n₀, and its own box. -/
def BackK (n₀ Bs : Nat) (W W' : World) : Prop := Below n₀ W W' ∧ W'.heap[Bs]? = W.heap[Bs]?
theorem BackK.refl (n₀ Bs : Nat) (W : World) : BackK n₀ Bs W W := ⟨Below.refl _ _, rfl⟩
theorem BackK.trans {n₀ Bs : Nat} {A B C : World} (h : BackK n₀ Bs A B) (k : BackK n₀ Bs B C) : BackK n₀ Bs A C := ⟨h.1.trans k.1, k.2.trans h.2⟩
theorem BackK.b {n₀ Bs : Nat} {w : World} (hn : n₀ ≤ w.heap.size) (hB : Bs < w.heap.size) (W : World) (l : Nat) (o o' : Obj) (hl : w.heap.size ≤ l) (h : W.heap[l]? = some o) (h1 : o.isCells = false) (h2 : o.isWalk = false) : BackK n₀ Bs W (W.putObj l o') :=
  ⟨belowK_b hn W l o o' hl h h1 h2, World.putObj_heap_other (by omega)⟩
theorem BackK.setCell {n₀ Bs : Nat} {W W' : World} (h : BackK n₀ Bs W W') {p : Addr} (hp : n₀ ≤ p.block) (hB : p.block ≠ Bs) (u : Value) : BackK n₀ Bs W (W'.setCell p u) :=
  ⟨h.1.setCell hp u, (Below.heap_setCell W' p u Bs (fun e => hB e.symm)).trans h.2⟩
set_option maxRecDepth 100000 in
set_option maxHeartbeats 2000000 in
theorem back1_in (F : Fence) (n : Nat) (h46 : F.fn 53) (hro : F.round = none) (hn : 1 ≤ n) (l Bs n₀ b off cap : Nat) (xs : List Nat) (hd : Dig xs) (hlen : xs.length ≤ 1000000) (hb : b < n₀)
    (J Jx : List (Item xs.length) → World → Prop)
    (hY : ∀ pre x W, J pre W → pre.length < xs.length → YieldAt F (n - 1) Tryd.prog l (itemE x) W fun e W' =>
      (e = .returned (.bool true) ∧ J (pre ++ [x]) W' ∧ BackK n₀ Bs W W') ∨ (e = .returned (.bool false) ∧ Jx (pre ++ [x]) W'))
    (W : World) (hBs : W.cell? ⟨Bs, 0, none⟩ = some (.slice (some ⟨b, off, none⟩) xs.length cap)) (hc : ∀ j, j < xs.length → W.cell? ⟨b, off + j, none⟩ = some (.int .u32 (xs[j]?.getD 0 : Nat))) (h0 : J [] W) :
    CallsIn F n Tryd.prog 53 #[.func (.yield l) #[] #[], .pointer (some ⟨Bs, 0, none⟩)] W fun e W' => (∃ v, e = .returned v) ∧
      ((∃ ys, ys = its xs hd xs.length ∧ J ys W') ∨ (∃ pre, (∃ k, k ≤ xs.length ∧ pre = its xs hd k) ∧ Jx pre W')) := by
  have HC := Lib.hid hc
  clear hc
  refine callsIn_of_wp Tryd.func53 rfl h46 ?_ hro
  simp only [Tryd.ntmps53, List.size_toArray, List.length_cons, List.length_nil, Nat.reduceAdd, Nat.reduceSub, Array.replicate_succ, Array.replicate_zero, List.push_toArray, List.append_toArray, List.nil_append, List.cons_append]
  gi_wp2
  gi_loopw [3] (fun i wr => ∃ (m : Nat) (t : Int), m ≤ xs.length ∧ t = (m : Int) - 1 ∧ i = .int .i64 t ∧ J (its xs hd (xs.length - m)) wr ∧ BackK n₀ Bs W wr)
    (fun i _ => (intOf i + 1).toNat)
  case atStart => exact ⟨xs.length, _, Nat.le_refl _, rfl, rfl, by rw [Nat.sub_self]; exact h0, BackK.refl _ _ _⟩
  case round =>
    obtain ⟨m, t, hm, ht, rfl, hJs, hnx⟩ := hrel
    by_cases hp : 0 < m
    · obtain ⟨p, rfl⟩ : ∃ p, m = p + 1 := ⟨m - 1, by omega⟩
      obtain rfl : t = (p : Int) := by omega
      have hbs := (World.cell?_of_block (a := ⟨Bs, 0, none⟩) hnx.2).trans hBs
      have hx := (hnx.1.cell (p := ⟨b, off + p, none⟩) hb).trans (HC.out p (by omega))
      obtain ⟨fn, tmps, assign, body, hy, hR⟩ := hY _ (it xs hd (xs.length - (p + 1))) wr hJs (by rw [its_length]; omega)
      have e1 : (it xs hd (xs.length - (p + 1))).1.1 = p := by show xs.length - 1 - (xs.length - (p + 1)) = p; omega
      have e2 : (it xs hd (xs.length - (p + 1))).1.2 = xs[p]?.getD 0 := by show xs[xs.length - 1 - (xs.length - (p + 1))]?.getD 0 = _; rw [show xs.length - 1 - (xs.length - (p + 1)) = p from by omega]
      unfold itemE at hy
      rw [e1, e2] at hy
      obtain ⟨x, hxx⟩ : ∃ x, x = xs[p]?.getD 0 := ⟨_, rfl⟩
      rw [← hxx] at hx hy
      have hpl : (p : Int) < (xs.length : Int) := by omega
      clear e1 e2 hxx ht
      have HX := Lib.hid hnx
      have HB := Lib.hid hBs
      clear hnx hBs
      gi_wp2
      refine hR.mono ?_
      have hsucc := its_succ xs hd (xs.length - (p + 1))
      rw [show xs.length - (p + 1) + 1 = xs.length - p from by omega] at hsucc
      rintro e W3 (⟨rfl, hJ3, hk3⟩ | ⟨rfl, hJx3⟩)
      · rw [← hsucc] at hJ3
        clear hsucc
        gi_wp2
        go_roundw
        case rel => exact ⟨p, (p : Int) - 1, by omega, rfl, rfl, hJ3, HX.out.trans hk3⟩
        case measure => simp [intOf] <;> omega
      · rw [← hsucc] at hJx3
        clear hsucc
        gi_wp2
        refine bodyPost_ret (results_none rfl _ _ _) rfl ?_
        exact ⟨⟨_, rfl⟩, .inr ⟨_, ⟨xs.length - p, by omega, rfl⟩, hJx3⟩⟩
    · obtain rfl : m = 0 := by omega
      obtain rfl : t = -1 := by omega
      clear ht hm hp hBs
      gi_wp2
      go_end0
      exact ⟨⟨_, rfl⟩, .inl ⟨_, rfl, by simpa using hJs⟩⟩
set_option maxRecDepth 100000 in
set_option maxHeartbeats 1000000 in
/-- .. no element: no round. -/
theorem back1_nil_in (F : Fence) (n : Nat) (h46 : F.fn 53) (hro : F.round = none) (l Bs cap : Nat) (A : Option Addr) (W : World) (hBs : W.cell? ⟨Bs, 0, none⟩ = some (.slice A 0 cap)) (J : World → Prop) (h0 : J W) :
    CallsIn F n Tryd.prog 53 #[.func (.yield l) #[] #[], .pointer (some ⟨Bs, 0, none⟩)] W fun e W' => (∃ v, e = .returned v) ∧ J W' := by
  refine callsIn_of_wp Tryd.func53 rfl h46 ?_ hro
  simp only [Tryd.ntmps53, List.size_toArray, List.length_cons, List.length_nil, Nat.reduceAdd, Nat.reduceSub, Array.replicate_succ, Array.replicate_zero, List.push_toArray, List.append_toArray, List.nil_append, List.cons_append]
  gi_wp2
  gi_loopw [3] (fun i wr => i = .int .i64 (-1) ∧ J wr) (fun _ _ => 0)
  case atStart => exact ⟨rfl, h0⟩
  case round =>
    obtain ⟨rfl, hJs⟩ := hrel
    gi_wp2
    go_end0
    exact ⟨⟨_, rfl⟩, hJs⟩
set_option maxHeartbeats 1000000 in
/-- slices.Backward(s): the slice is boxed; the function value holds the box. -/
theorem back_any (A : Option Addr) (len cap : Nat) (w : World) :
    Calls Tryd.prog 46 #[.slice A len cap] w fun e w' => e = .returned (.func (.func 53) #[] #[.pointer (some ⟨w.heap.size, 0, none⟩)]) ∧ w' = w.alloc (.cells #[.slice A len cap] 22) := by
  go_enter Tryd.func46, Tryd.ntmps46
  go_wp2
  go_ret
  exact ⟨rfl, rfl⟩
/-- The function value hands over all places, the last one first. -/
theorem back_stops (F : Fence) (n : Nat) (h46 : F.fn 53) (hro : F.round = none) (hn : 1 ≤ n) (Bs n₀ cap : Nat) (A : Option Addr) (xs : List Nat) (hd : Dig xs) (hlen : xs.length ≤ 1000000) (w0 w : World) (hBs : Bs < w.heap.size) (hn₀ : n₀ ≤ w.heap.size)
    (hc : w.cell? ⟨Bs, 0, none⟩ = some (.slice A xs.length cap)) (hU : Us w0 A cap xs) (h00 : w0.heap.size = n₀) (hb0 : Below n₀ w0 w) :
    SeqStopsK F n Tryd.prog 53 #[.pointer (some ⟨Bs, 0, none⟩)] (itemE (n := xs.length)) (BackK n₀ Bs) (fun ys => ys = its xs hd xs.length) (fun pre => ∃ k, k ≤ xs.length ∧ pre = its xs hd k) xs.length w := fun l J Jx W hW _ _ hY h0 => by
  have hc' := (hW.cell (p := ⟨Bs, 0, none⟩) hBs).trans hc
  rcases Nat.eq_zero_or_pos xs.length with hz | hz
  · rw [hz] at hc'
    refine (back1_nil_in F n h46 hro l Bs cap A W hc' (fun W' => J [] W') h0).mono fun e W' ⟨he, hj⟩ => ⟨he, .inl ⟨_, rfl, ?_⟩⟩
    rw [hz]
    exact hj
  · obtain ⟨b, off, rfl, hb, hcs⟩ := hU.at_ hz
    rw [h00] at hb
    exact back1_in F n h46 hro hn l Bs n₀ b off cap xs hd hlen hb J Jx hY W hc' (fun j hj => ((hb0.trans (hW.mono hn₀)).cell (p := ⟨b, off + j, none⟩) hb).trans (hcs j hj)) h0
/-- A function that ranges over a function: its contract from its body. -/
theorem calls_of_wide {P : Program} {f : FuncId} {fn : Func} {c : Code} {args : Array Value} {w : World} {R : Ending → World → Prop} (hf : P.funcs[f]? = some fn) (hb : fn.body = some c)
    (h : c.wp P (bodyPostM Fence.wide 4 P fn R) { tmps := args ++ Array.replicate (fn.ntmps - args.size) undef, defers := [] } w) : Calls P f args w R :=
  (callsIn_wide (n := 4)).1 (callsIn_of_wp_marks hf hb trivial (wpIn_wide.2 h) rfl)
end Go.Proofs.YteekijmhghokkaaDoor

namespace Go.Proofs.YteekijmhghokkaaDoor
set_option linter.unusedVariables false
set_option linter.unusedSimpArgs false
open Go.RowKit Go.Shelf Num
attribute [local go_sem] Oper.semAt_some
theorem its_zero {xs : List Nat} {hd : Dig xs} {k : Nat} (hk : k ≤ xs.length) (h : ∀ y ∈ its xs hd k, y.1.2 = 0) : ∀ j, xs.length - k ≤ j → j < xs.length → xs[j]?.getD 0 = 0 := by
  intro j h1 h2
  have hm : it xs hd (xs.length - 1 - j) ∈ its xs hd k := List.mem_map.2 ⟨_, List.mem_range.2 (by omega), rfl⟩
  have := h _ hm
  unfold it at this
  simp only [show xs.length - 1 - (xs.length - 1 - j) = j from by omega] at this
  exact this
/-- All that came are noughts: the number is 0. -/
theorem trim_none {xs : List Nat} {hd : Dig xs} (h : ∀ y ∈ its xs hd xs.length, y.1.2 = 0) : val xs = 0 := by
  have := val_cut (xs := xs) (k := 0) (Nat.zero_le _) (fun j _ hl => its_zero (Nat.le_refl _) h j (by omega) hl)
  rw [← this]; rfl
/-- The last one that came isn't, the others are. -/
theorem trim_some {xs : List Nat} {hd : Dig xs} {k : Nat} {pre : List (Item xs.length)} {x : Item xs.length} (hk : k ≤ xs.length) (he : pre ++ [x] = its xs hd k) (hp : ∀ y ∈ pre, y.1.2 = 0) (hx : x.1.2 ≠ 0) :
    x.1.1 < xs.length ∧ x.1.2 = xs[x.1.1]?.getD 0 ∧ Canon (xs.take (x.1.1 + 1)) ∧ val (xs.take (x.1.1 + 1)) = val xs := by
  cases k with
  | zero => simp [its] at he
  | succ k =>
    rw [its_succ] at he
    obtain ⟨e1, e2⟩ := List.append_inj' he rfl
    simp only [List.cons.injEq, and_true] at e2
    subst e1
    subst e2
    have hz := its_zero (hd := hd) (k := k) (by omega) hp
    unfold it at hx ⊢
    simp only at hx ⊢
    refine ⟨by omega, trivial, canon_take (by omega) hx, val_cut (by omega) (fun j h1 h2 => hz j (by omega) h2)⟩
def trimI (A : Option Addr) (c B0 : Nat) (xs : List Nat) (w : World) (pre : List (Item xs.length)) (W : World) : Prop :=
  ((∀ y ∈ pre, y.1.2 = 0) ∧ W.cell? ⟨B0, 0, none⟩ = some (.slice A xs.length c) ∧ W.cell? ⟨B0 + 1, 0, none⟩ = some (.slice none 0 0) ∧ W.frozen? ⟨B0 + 1, 0, none⟩ = false) ∧ Below w.heap.size w W
def trimX (A : Option Addr) (c B0 : Nat) (xs : List Nat) (w : World) (cd : Code) (pre : List (Item xs.length)) (W : World) : Prop :=
  (cd = .ret ∧ ∃ p x, pre = p ++ [x] ∧ (∀ y ∈ p, y.1.2 = 0) ∧ x.1.2 ≠ 0 ∧ W.cell? ⟨B0 + 1, 0, none⟩ = some (.slice A (x.1.1 + 1) c)) ∧ Below w.heap.size w W
/-- What trim leaves: a piece of what it was given, from its beginning on; wherever that reads as xs, this reads as rs. -/
def RetT (A : Option Addr) (c : Nat) (xs : List Nat) (w : World) (e : Ending) (w' : World) : Prop :=
  ∃ A' c' rs, e = .returned (.slice A' rs.length c') ∧ (∀ W, Us W A c xs → Us W A' c' rs) ∧ Canon rs ∧ val rs = val xs ∧ rs.length ≤ xs.length ∧ Below w.heap.size w w'
/-- .. and it lies where that lay, or nowhere. -/
def RetTF (A : Option Addr) (c : Nat) (xs : List Nat) (w : World) (e : Ending) (w' : World) : Prop :=
  ∃ A' c' rs, e = .returned (.slice A' rs.length c') ∧ (∀ W, Us W A c xs → Us W A' c' rs) ∧ Canon rs ∧ val rs = val xs ∧ rs.length ≤ xs.length ∧ Below w.heap.size w w' ∧ (A' = A ∨ A' = none)
theorem Us.take {w : World} {A : Option Addr} {c : Nat} {xs : List Nat} (h : Us w A c xs) {k : Nat} (hk : k ≤ xs.length) : Us w A c (xs.take k) := by
  refine ⟨h.1.take k, ?_, h.2.2.1, fun hn => ?_⟩
  · have := h.2.1
    simp only [List.length_map, List.length_take] at this ⊢
    omega
  · simp only [List.length_map, List.length_take] at hn
    obtain ⟨b, off, e, hb, hc⟩ := h.2.2.2 (by simp; omega)
    refine ⟨b, off, e, hb, fun j u hu => hc j u ?_⟩
    rw [List.map_take, List.getElem?_take] at hu
    split at hu
    · exact hu
    · cases hu
set_option maxRecDepth 100000 in
set_option maxHeartbeats 2000000 in
theorem trim_subF (A : Option Addr) (c : Nat) (xs : List Nat) (w : World) (h : Us w A c xs) (hl : xs.length ≤ 1000000) :
    Calls Tryd.prog 45 #[.slice A xs.length c] w (RetTF A c xs w) := by
  refine (callsIn_wide (n := 4)).1 ?_
  have hd := h.1
  obtain ⟨hcap1, hcap2⟩ := h.cap
  have HH := Lib.hid h
  clear h
  refine callsIn_of_wp_marks Tryd.func45 rfl trivial ?_ rfl
  simp only [Tryd.ntmps45, List.size_toArray, List.length_cons, List.length_nil, Nat.reduceAdd, Nat.reduceSub, Array.replicate_succ, Array.replicate_zero, List.push_toArray, List.append_toArray, List.nil_append, List.cons_append]
  gi_wp2_with (refine ⟨trivial, ?_⟩; gi_at_call 46; refine (callsIn_wide.2 (back_any _ _ _ _)).mono ?_; rintro e w' ⟨rfl, rfl⟩)
  have c0 := cell_new_l w (.slice A xs.length c) 22
  have c1 := cell_new_l (w.alloc (.cells #[.slice A xs.length c] 22)) (.slice none 0 0) 22
  have c2 := cell_new_l ((w.alloc (.cells #[.slice A xs.length c] 22)).alloc (.cells #[.slice none 0 0] 22)) (.slice A xs.length c) 22
  simp only [World.size_alloc] at c1 c2
  have hB0 : Below w.heap.size w (((w.alloc (.cells #[.slice A xs.length c] 22)).alloc (.cells #[.slice none 0 0] 22)).alloc (.cells #[.slice A xs.length c] 22)) := (((Below.refl _ w).alloc (Nat.le_refl _) _).alloc (by simp) _).alloc (by simp; omega) _
  refine wpIn_rangeFunc_ownF rfl (by decide) (gf := 53) (lb := #[.pointer (some ⟨w.heap.size + 1 + 1, 0, none⟩)]) rfl trivial (enters_of Tryd.func53 (by kernel_rfl) rfl)
    (back_stops Fence.wide 3 trivial rfl (by decide) (w.heap.size + 1 + 1) w.heap.size c A xs hd hl w _ (by simp) (by simp; omega) c2.1 HH.out rfl hB0) BackK.trans (BackK.b (by simp; omega) (by simp)) (Below.refl _ _) (fun _ => rfl)
    (trimI A c w.heap.size xs w) (trimX A c w.heap.size xs w)
    (OwnFrom.and (Own.from (fun s A B row hs hg hr => ⟨hs.1, cell_kept hs.2.1 hg hr, cell_kept hs.2.2.1 hg hr, (frozen_kept hs.2.2.1 hg hr).trans hs.2.2.2⟩) _) (ownFrom_below (Nat.le_refl _) (by simp; omega)))
    (fun cd => OwnFrom.and (Own.from (fun s A B row hs hg hr => ⟨hs.1, by obtain ⟨p, x, e1, e2, e3, e4⟩ := hs.2; exact ⟨p, x, e1, e2, e3, cell_kept e4 hg hr⟩⟩) _) (ownFrom_below (Nat.le_refl _) (by simp; omega)))
    ⟨⟨by simp, cell_alloc_l _ (cell_alloc_l _ c0.1), cell_alloc_l _ c1.1, frozen_alloc_l _ c1.1 c1.2⟩, hB0⟩
    (fun x => { tmps := #[.slice A xs.length c, .pointer (some ⟨w.heap.size, 0, none⟩), .pointer (some ⟨w.heap.size + 1, 0, none⟩), .int .i64 (x.1.1 : Int), .int .u32 (x.1.2 : Int), .slice A xs.length c, .func (.func 53) #[] #[.pointer (some ⟨w.heap.size + 1 + 1, 0, none⟩)], .int .i64 (x.1.1 : Int), .int .u32 (x.1.2 : Int), undef, undef, undef, undef, undef, undef], defers := [] }) ?assign ?body ?done ?stop
  case assign =>
    intro l x W K hK
    unfold itemE
    gi_wp2
    exact hK
  case body =>
    rintro l pre x W ⟨⟨hz, hca, hcr, hfr⟩, hB⟩ hpre
    obtain ⟨⟨i, y⟩, hxi⟩ := x
    have hi' : i < xs.length := hxi.1 (by omega)
    have hy : y < 4294967296 := hxi.2
    dsimp only
    have HZ := Lib.hid hz
    have HB := Lib.hid hB
    clear hz hB c0 c1 c2 hB0
    by_cases hy0 : y = 0
    · subst hy0
      gi_wp2
      refine ⟨KeepsOthers.refl _, BackK.refl _ _ _, ⟨fun z hz => ?_, hca, hcr, hfr⟩, HB.out⟩
      rcases List.mem_append.1 hz with hz | hz
      · exact HZ.out z hz
      · simp only [List.mem_singleton] at hz; subst hz; rfl
    · have t1 : ((y : Int) != 0) = true := by rw [bne_iff_ne]; omega
      have hic : (i : Int) + 1 ≤ (c : Int) := by omega
      gi_wp2
      refine ⟨KeepsOthers.setCell _ _ _, ⟨rfl, pre, _, rfl, HZ.out, hy0, World.cell?_setCell_same' _ _ _ (by rw [hcr]; rfl)⟩, HB.out.setCell (p := ⟨w.heap.size + 1, 0, none⟩) (by simp) _⟩
  case done =>
    rintro D ys W hD rfl ⟨⟨hz, hca, hcr, hfr⟩, hB⟩ hK
    have hv := trim_none hz
    have HZ := Lib.hid hz
    have HB := Lib.hid hB
    have HV := Lib.hid hv
    clear hz hB hv c0 c1 c2 hB0
    gi_wp2
    have hK' := (KeepsOthers.setCell W ⟨w.heap.size + 1, 0, none⟩ (.slice none 0 0)).same D _ hK rfl
    refine ⟨by simp, .inl ⟨_, _, rfl, run_takeDeferred hK', ?_⟩⟩
    have hc5 := cell_kept (World.cell?_setCell_same' W ⟨w.heap.size + 1, 0, none⟩ (.slice none 0 0) (by rw [hcr]; rfl)) (grownBy_putObj' _ D (.deferred none)) (fun r e => by cases e; exact ⟨_, hK', rfl⟩)
    refine ⟨.slice none 0 0, ?_, none, 0, [], rfl, fun W _ => Us.nil W, canon_nil, by rw [HV.out]; rfl, Nat.zero_le _, (HB.out.setCell (p := ⟨w.heap.size + 1, 0, none⟩) (by simp) _).trans (belowK_b (w := w) (Nat.le_refl _) _ D _ _ (by simp at hD; omega) hK' rfl rfl), .inr rfl⟩
    simp [results, Tryd.f45, go_sem, hc5]
  case stop =>
    rintro D cd pre W hD ⟨k, hk, hpre⟩ ⟨⟨rfl, p, x, e1, e2, e3, hcr⟩, hB⟩ hK
    obtain ⟨g1, g2, g3, g4⟩ := trim_some hk (e1.symm.trans hpre) e2 e3
    have HB := Lib.hid hB
    clear hB e1 e2 hpre c0 c1 c2 hB0
    gi_wp2
    refine ⟨by simp, .inl ⟨_, _, rfl, run_takeDeferred hK, ?_⟩⟩
    have hc5 := cell_kept hcr (grownBy_putObj' _ D (.deferred none)) (fun r e => by cases e; exact ⟨_, hK, rfl⟩)
    have hbw := HB.out.trans (belowK_b (w := w) (Nat.le_refl _) W D _ (.deferred none) (by simp at hD; omega) hK rfl rfl)
    refine ⟨.slice A (x.1.1 + 1) c, ?_, A, c, xs.take (x.1.1 + 1), ?_, fun W hW => hW.take (by omega), g3, g4, by rw [List.length_take]; omega, hbw, .inl rfl⟩
    · simp [results, Tryd.f45, go_sem, hc5]
    · rw [List.length_take, Nat.min_eq_left (by omega)]
theorem trim_sub (A : Option Addr) (c : Nat) (xs : List Nat) (w : World) (h : Us w A c xs) (hl : xs.length ≤ 1000000) :
    Calls Tryd.prog 45 #[.slice A xs.length c] w (RetT A c xs w) :=
  (trim_subF A c xs w h hl).mono fun _ _ ⟨A', c', rs, e, hU, hc, hv, hl, hb, _⟩ => ⟨A', c', rs, e, hU, hc, hv, hl, hb⟩
theorem trim_any (A : Option Addr) (c : Nat) (xs : List Nat) (w : World) (h : Us w A c xs) (hl : xs.length ≤ 1000000) :
    Calls Tryd.prog 45 #[.slice A xs.length c] w (RetU (val xs) w) :=
  (trim_sub A c xs w h hl).mono fun _ _ ⟨A', c', rs, e, hU, hc, hv, _, hb⟩ => ⟨A', c', rs, e, hU _ (h.below hb), hc, hv, hb⟩
theorem trim_of {A : Option Addr} {c n : Nat} {xs : List Nat} {w : World} (h : Us w A c xs) (hn : xs.length = n) (hl : n ≤ 1000000) :
    Calls Tryd.prog 45 #[.slice A n c] w (RetU (val xs) w) := by
  subst hn
  exact trim_any A c xs w h hl
/-- What a call leaves that answers limbs of which it is known where they lie. -/
def RetUF (n : Nat) (A : Option Addr) (w : World) (e : Ending) (w' : World) : Prop :=
  ∃ A' c rs, e = .returned (.slice A' rs.length c) ∧ Us w' A' c rs ∧ Canon rs ∧ val rs = n ∧ Below w.heap.size w w' ∧ (A' = A ∨ A' = none)
theorem trim_ofF {A : Option Addr} {c n : Nat} {xs : List Nat} {w : World} (h : Us w A c xs) (hn : xs.length = n) (hl : n ≤ 1000000) :
    Calls Tryd.prog 45 #[.slice A n c] w (RetUF (val xs) A w) := by
  subst hn
  exact (trim_subF A c xs w h hl).mono fun _ _ ⟨A', c', rs, e, hU, hc, hv, _, hb, hf⟩ => ⟨A', c', rs, e, hU _ (h.below hb), hc, hv, hb, hf⟩
end Go.Proofs.YteekijmhghokkaaDoor

namespace Go.Proofs.YteekijmhghokkaaDoor
set_option linter.unusedVariables false
set_option linter.unusedSimpArgs false
open Go.RowKit Go.Shelf Num
attribute [local go_sem] Oper.semAt_some
/-- A statement that ends as a statement does, or not at all. -/
def NormalOnly (Q : Exit → Act → World → Prop) : Exit → Act → World → Prop
  | .normal, a, w => Q .normal a w
  | _, _, _ => False
theorem wp_normalOnly {P : Program} {c : Code} {a : Act} {w : World} {Q : Exit → Act → World → Prop} (h : c.wp P (NormalOnly Q) a w) : c.wp P Q a w :=
  wp_mono h fun e _ _ hq => by cases e <;> first | exact hq | exact False.elim hq
/-- How memory stands within that statement: b's variable holds v still; the answer's lies behind it. -/
structure CmpSt (w W0 : World) (v : Value) (W : World) : Prop where
  size : W0.heap.size = w.heap.size + 2
  cell : W.cell? ⟨w.heap.size, 0, none⟩ = some v
  free : W.frozen? ⟨w.heap.size, 0, none⟩ = false
  cellR : W.cell? ⟨w.heap.size + 1, 0, none⟩ = some (.int .i64 0)
  freeR : W.frozen? ⟨w.heap.size + 1, 0, none⟩ = false
  b : Below W0.heap.size W0 W
  base : Below w.heap.size w W0
theorem CmpSt.next {w W0 W W1 : World} {v : Value} (h : CmpSt w W0 v W) (hb : Below W.heap.size W W1) : CmpSt w W0 v W1 :=
  have l0 := lt_of_cell h.cell
  have l1 := lt_of_cell h.cellR
  ⟨h.size, (hb.cell (p := ⟨w.heap.size, 0, none⟩) l0).trans h.cell, (hb.frozen (p := ⟨w.heap.size, 0, none⟩) l0).trans h.free, (hb.cell (p := ⟨w.heap.size + 1, 0, none⟩) l1).trans h.cellR, (hb.frozen (p := ⟨w.heap.size + 1, 0, none⟩) l1).trans h.freeR,
    h.b.trans (hb.mono h.b.size), h.base⟩
end Go.Proofs.YteekijmhghokkaaDoor

namespace Go.Proofs.YteekijmhghokkaaDoor
set_option linter.unusedVariables false
set_option linter.unusedSimpArgs false
open Go.RowKit Num
theorem bool_one (xs : List Bool) : ∀ u ∈ xs.map Value.bool, u.oneCell' = true := fun u hu => by obtain ⟨x, _, rfl⟩ := List.mem_map.1 hu; rfl
end Go.Proofs.YteekijmhghokkaaDoor

namespace Go.Proofs.YteekijmhghokkaaDoor
set_option linter.unusedVariables false
set_option linter.unusedSimpArgs false
open Go.RowKit Num
theorem ownsRow_below {w w' : World} {base : Nat} {e : TypeId} {size : Nat} {v : Value} {n : Nat} {xs : List Value} (h : w.ownsRow base e size v n xs) (hb : Below w.heap.size w w') : w'.ownsRow base e size v n xs := by
  refine ⟨h.1, ?_⟩
  rcases h.2 with h1 | ⟨g, cap, cur, h1, h2, h3, h4⟩
  · exact .inl h1
  · refine .inr ⟨g, cap, cur, h1, h2, (hb.block g ?_).trans h3, h4⟩
    rcases Nat.lt_or_ge g w.heap.size with hlt | hge
    · exact hlt
    · rw [Array.getElem?_eq_none hge] at h3; cases h3
/-- Block g is a row of n limbs, rs, made by the call. -/
def OwnU (w : World) (base g n : Nat) (rs : List Nat) : Prop :=
  Dig rs ∧ rs.length = n ∧ w.ownsRow base 48 1 (.slice (some ⟨g, 0, none⟩) n n) n (rs.map u32v)
theorem OwnU.base {w : World} {base g n : Nat} {rs : List Nat} (h : OwnU w base g n rs) : base ≤ g := by
  rcases h.2.2.2 with ⟨h1, _⟩ | ⟨g', cap, cur, h1, h2, h3, h4⟩
  · cases h1
  · simp only [Value.slice.injEq, Option.some.injEq, Addr.mk.injEq, and_true, true_and] at h1
    obtain ⟨rfl, rfl⟩ := h1
    exact h2
theorem OwnU.lt {w : World} {base g n : Nat} {rs : List Nat} (h : OwnU w base g n rs) : g < w.heap.size := by
  rcases h.2.2.2 with ⟨h1, _⟩ | ⟨g', cap, cur, h1, h2, h3, h4⟩
  · cases h1
  · simp only [Value.slice.injEq, Option.some.injEq, Addr.mk.injEq, and_true, true_and] at h1
    obtain ⟨rfl, rfl⟩ := h1
    rcases Nat.lt_or_ge g w.heap.size with hlt | hge
    · exact hlt
    · rw [Array.getElem?_eq_none hge] at h3; cases h3
theorem OwnU.cell {w : World} {base g n : Nat} {rs : List Nat} (h : OwnU w base g n rs) {k : Nat} (hk : k < n) : w.cell? ⟨g, k, none⟩ = some (.int .u32 (rs[k]?.getD 0 : Nat)) := by
  have hl : k < rs.length := by have := h.2.1; omega
  rw [h.2.2.cellAt k (by omega), List.getElem?_map, List.getElem?_eq_getElem hl]
  rfl
theorem OwnU.free {w : World} {base g n : Nat} {rs : List Nat} (h : OwnU w base g n rs) (k : Nat) : w.frozen? ⟨g, k, none⟩ = false := h.2.2.frozenAt k
theorem OwnU.set {w : World} {base g n : Nat} {rs : List Nat} (h : OwnU w base g n rs) (k : Nat) {u : Nat} (hu : u < 4294967296) : OwnU (w.setCell ⟨g, k, none⟩ (.int .u32 (u : Int))) base g n (rs.set k u) := by
  refine ⟨h.1.set k hu, by simpa using h.2.1, ?_⟩
  rw [List.map_set]
  exact (h.2.2.stored k _).1
theorem OwnU.below {w w' : World} {base g n : Nat} {rs : List Nat} (h : OwnU w base g n rs) (hb : Below w.heap.size w w') : OwnU w' base g n rs := ⟨h.1, h.2.1, ownsRow_below h.2.2 hb⟩
theorem OwnU.reads {w : World} {base g n : Nat} {rs : List Nat} (h : OwnU w base g n rs) : Us w (some ⟨g, 0, none⟩) n rs := ⟨h.1, Rd.own h.2.2⟩
theorem OwnU.drew {w : World} {base g n : Nat} {rs : List Nat} (h : OwnU w base g n rs) : OwnU w.drew base g n rs := h
/-- A store elsewhere. -/
theorem OwnU.far {w : World} {base g n : Nat} {rs : List Nat} (h : OwnU w base g n rs) {p : Addr} (hp : p.block ≠ g) (u : Value) : OwnU (w.setCell p u) base g n rs := by
  refine ⟨h.1, h.2.1, h.2.2.1, ?_⟩
  rcases h.2.2.2 with ⟨h1, _⟩ | ⟨g', cap, cur, h1, h2, h3, h4⟩
  · cases h1
  · simp only [Value.slice.injEq, Option.some.injEq, Addr.mk.injEq, and_true, true_and] at h1
    obtain ⟨rfl, rfl⟩ := h1
    exact .inr ⟨g, n, cur, rfl, h2, (Below.heap_setCell w p u g (fun e => hp e.symm)).trans h3, h4⟩
theorem madeU (n : Nat) : (madeCells (Value.cells (.int .u32 0)) (n * 1)).toList = (List.replicate n 0).map u32v := by
  rw [Nat.mul_one]
  refine List.ext_getElem (by simp [madeCells]) fun i h1 h2 => ?_
  simp [madeCells, Value.cells, Nat.mod_one]
theorem OwnU.made {w : World} {base g n : Nat} (h : w.ownsRow base 48 1 (.slice (some ⟨g, 0, none⟩) n n) n (madeCells (Value.cells (.int .u32 0)) (n * 1)).toList) : OwnU w base g n (List.replicate n 0) :=
  ⟨Dig.replicate n, by simp, by rw [← madeU]; exact h⟩
theorem val_take_set {rs : List Nat} {k : Nat} (u : Nat) (hk : k < rs.length) : val ((rs.set k u).take (k + 1)) = val (rs.take k) + 4294967296 ^ k * u := by
  rw [val_take_succ (by simpa using hk), List.take_set_of_le (by omega), List.getElem?_set]
  simp [hk]
theorem take_all {rs : List Nat} {n : Nat} (h : rs.length = n) : rs.take n = rs := List.take_of_length_le (by omega)
end Go.Proofs.YteekijmhghokkaaDoor
