/-
  slices.Backward over limbs: the iterator's contract.
-/
import Derived.Test.YthkeehfoefjnfaaMem
import Derived.RangeFuncNested
import Derived.RangeFuncBound
import Derived.RangeFuncCalls
import Derived.RangeFuncLeaves
import Derived.Shelf.Abstract
import Derived.Shelf.RegionOpen
import Derived.OwnWalkIn
import Derived.TacticsInMore
import Derived.LoopNIn
import Derived.LoopIn
namespace Go.Proofs.Ythkeehfoefjnfaa
set_option linter.unusedVariables false
set_option linter.unusedSimpArgs false
open Go.RowKit Go.Shelf Num
attribute [local go_sem] Oper.semAt_some

/-- What the iterator hands over: a place, and the limb there. -/
abbrev Item (n : Nat) : Type := { x : Nat × Nat // (0 < n → x.1 < n) ∧ x.2 < 4294967296 }
def itemE {n : Nat} (x : Item n) : Array Value := #[.int .i64 (x.1.1 : Int), .int .u32 (x.1.2 : Int)]
def it (xs : List Nat) (hd : Dig xs) (j : Nat) : Item xs.length := ⟨(xs.length - 1 - j, xs[xs.length - 1 - j]?.getD 0), ⟨fun h => by omega, hd.getD _⟩⟩
def its (xs : List Nat) (hd : Dig xs) (k : Nat) : List (Item xs.length) := (List.range k).map (it xs hd)
theorem its_succ (xs : List Nat) (hd : Dig xs) (k : Nat) : its xs hd (k + 1) = its xs hd k ++ [it xs hd k] := by simp [its, List.range_succ]
theorem its_length (xs : List Nat) (hd : Dig xs) (k : Nat) : (its xs hd k).length = k := by simp [its]
/-- What a round keeps for the iterator: what lay below n₀, and its own box. -/
def BackK (n₀ Bs : Nat) (W W' : World) : Prop := Below n₀ W W' ∧ W'.heap[Bs]? = W.heap[Bs]?
theorem BackK.refl (n₀ Bs : Nat) (W : World) : BackK n₀ Bs W W := ⟨Below.refl _ _, rfl⟩
theorem BackK.trans {n₀ Bs : Nat} {A B C : World} (h : BackK n₀ Bs A B) (k : BackK n₀ Bs B C) : BackK n₀ Bs A C := ⟨h.1.trans k.1, k.2.trans h.2⟩
theorem BackK.b {n₀ Bs : Nat} {w : World} (hn : n₀ ≤ w.heap.size) (hB : Bs < w.heap.size) (W : World) (l : Nat) (o o' : Obj) (hl : w.heap.size ≤ l) (h : W.heap[l]? = some o) (h1 : o.isCells = false) (h2 : o.isWalk = false) : BackK n₀ Bs W (W.putObj l o') :=
  ⟨belowK_b hn W l o o' hl h h1 h2, World.putObj_heap_other (by omega)⟩
theorem BackK.setCell {n₀ Bs : Nat} {W W' : World} (h : BackK n₀ Bs W W') {p : Addr} (hp : n₀ ≤ p.block) (hB : p.block ≠ Bs) (u : Value) : BackK n₀ Bs W (W'.setCell p u) :=
  ⟨h.1.setCell hp u, (Below.heap_setCell W' p u Bs (fun e => hB e.symm)).trans h.2⟩

set_option maxRecDepth 100000 in
set_option maxHeartbeats 2000000 in
theorem back1_in (F : Fence) (n : Nat) (h46 : F.fn 78) (hro : F.round = none) (hn : 1 ≤ n) (l Bs n₀ b off cap : Nat) (xs : List Nat) (hd : Dig xs) (hlen : xs.length ≤ 1000000) (hb : b < n₀)
    (J Jx : List (Item xs.length) → World → Prop)
    (hY : ∀ pre x W, J pre W → pre.length < xs.length → YieldAt F (n - 1) Try.prog l (itemE x) W fun e W' =>
      (e = .returned (.bool true) ∧ J (pre ++ [x]) W' ∧ BackK n₀ Bs W W') ∨ (e = .returned (.bool false) ∧ Jx (pre ++ [x]) W'))
    (W : World) (hBs : W.cell? ⟨Bs, 0, none⟩ = some (.slice (some ⟨b, off, none⟩) xs.length cap)) (hc : ∀ j, j < xs.length → W.cell? ⟨b, off + j, none⟩ = some (.int .u32 (xs[j]?.getD 0 : Nat))) (h0 : J [] W) :
    CallsIn F n Try.prog 78 #[.func (.yield l) #[] #[], .pointer (some ⟨Bs, 0, none⟩)] W fun e W' => (∃ v, e = .returned v) ∧
      ((∃ ys, ys = its xs hd xs.length ∧ J ys W') ∨ (∃ pre, (∃ k, k ≤ xs.length ∧ pre = its xs hd k) ∧ Jx pre W')) := by
  have HC := Lib.hid hc
  clear hc
  refine callsIn_of_wp Try.func78 rfl h46 ?_ hro
  simp only [Try.ntmps78, List.size_toArray, List.length_cons, List.length_nil, Nat.reduceAdd, Nat.reduceSub, Array.replicate_succ, Array.replicate_zero, List.push_toArray, List.append_toArray, List.nil_append, List.cons_append]
  gi_wp2
  gi_loopw [3] (fun i wr => ∃ (m : Nat) (t : Int), m ≤ xs.length ∧ t = (m : Int) - 1 ∧ i = .int .i64 t ∧ J (its xs hd (xs.length - m)) wr ∧ BackK n₀ Bs W wr)
    (fun i _ => (intOf i + 1).toNat)
  case atStart => exact ⟨xs.length, _, Nat.le_refl _, rfl, rfl, by rw [Nat.sub_self]; exact h0, BackK.refl _ _ _⟩
  case round =>
    obtain ⟨m, t, hm, ht, rfl, hJs, hnx⟩ := hrel
    by_cases hp : 0 < m
    · obtain ⟨p, rfl⟩ : ∃ p, m = p + 1 := ⟨m - 1, by omega⟩
      obtain rfl : t = (p : Int) := by omega
      have hbs := (World.cell?_of_block (a := ⟨Bs, 0, none⟩) hnx.2).trans hBs
      have hx := (hnx.1.cell (p := ⟨b, off + p, none⟩) hb).trans (HC.out p (by omega))
      obtain ⟨fn, tmps, assign, body, hy, hR⟩ := hY _ (it xs hd (xs.length - (p + 1))) wr hJs (by rw [its_length]; omega)
      have e1 : (it xs hd (xs.length - (p + 1))).1.1 = p := by show xs.length - 1 - (xs.length - (p + 1)) = p; omega
      have e2 : (it xs hd (xs.length - (p + 1))).1.2 = xs[p]?.getD 0 := by show xs[xs.length - 1 - (xs.length - (p + 1))]?.getD 0 = _; rw [show xs.length - 1 - (xs.length - (p + 1)) = p from by omega]
      unfold itemE at hy
      rw [e1, e2] at hy
      obtain ⟨x, hxx⟩ : ∃ x, x = xs[p]?.getD 0 := ⟨_, rfl⟩
      rw [← hxx] at hx hy
      have hpl : (p : Int) < (xs.length : Int) := by omega
      clear e1 e2 hxx ht
      have HX := Lib.hid hnx
      have HB := Lib.hid hBs
      clear hnx hBs
      gi_wp2
      refine hR.mono ?_
      have hsucc := its_succ xs hd (xs.length - (p + 1))
      rw [show xs.length - (p + 1) + 1 = xs.length - p from by omega] at hsucc
      rintro e W3 (⟨rfl, hJ3, hk3⟩ | ⟨rfl, hJx3⟩)
      · rw [← hsucc] at hJ3
        clear hsucc
        gi_wp2
        go_roundw
        case rel => exact ⟨p, (p : Int) - 1, by omega, rfl, rfl, hJ3, HX.out.trans hk3⟩
        case measure => simp [intOf] <;> omega
      · rw [← hsucc] at hJx3
        clear hsucc
        gi_wp2
        refine bodyPost_ret (results_none rfl _ _ _) rfl ?_
        exact ⟨⟨_, rfl⟩, .inr ⟨_, ⟨xs.length - p, by omega, rfl⟩, hJx3⟩⟩
    · obtain rfl : m = 0 := by omega
      obtain rfl : t = -1 := by omega
      clear ht hm hp hBs
      gi_wp2
      go_end0
      exact ⟨⟨_, rfl⟩, .inl ⟨_, rfl, by simpa using hJs⟩⟩

set_option maxRecDepth 100000 in
set_option maxHeartbeats 1000000 in
/-- .. no element: no round. -/
theorem back1_nil_in (F : Fence) (n : Nat) (h46 : F.fn 78) (hro : F.round = none) (l Bs cap : Nat) (A : Option Addr) (W : World) (hBs : W.cell? ⟨Bs, 0, none⟩ = some (.slice A 0 cap)) (J : World → Prop) (h0 : J W) :
    CallsIn F n Try.prog 78 #[.func (.yield l) #[] #[], .pointer (some ⟨Bs, 0, none⟩)] W fun e W' => (∃ v, e = .returned v) ∧ J W' := by
  refine callsIn_of_wp Try.func78 rfl h46 ?_ hro
  simp only [Try.ntmps78, List.size_toArray, List.length_cons, List.length_nil, Nat.reduceAdd, Nat.reduceSub, Array.replicate_succ, Array.replicate_zero, List.push_toArray, List.append_toArray, List.nil_append, List.cons_append]
  gi_wp2
  gi_loopw [3] (fun i wr => i = .int .i64 (-1) ∧ J wr) (fun _ _ => 0)
  case atStart => exact ⟨rfl, h0⟩
  case round =>
    obtain ⟨rfl, hJs⟩ := hrel
    gi_wp2
    go_end0
    exact ⟨⟨_, rfl⟩, hJs⟩

set_option maxHeartbeats 1000000 in
/-- slices.Backward(s): the slice is boxed; the function value holds the box. -/
theorem back_any (A : Option Addr) (len cap : Nat) (w : World) :
    Calls Try.prog 66 #[.slice A len cap] w fun e w' => e = .returned (.func (.func 78) #[] #[.pointer (some ⟨w.heap.size, 0, none⟩)]) ∧ w' = w.alloc (.cells #[.slice A len cap] 22) := by
  go_enter Try.func66, Try.ntmps66
  go_wp2
  go_ret
  exact ⟨rfl, rfl⟩

/-- The function value hands over all places, the last one first. -/
theorem back_stops (F : Fence) (n : Nat) (h46 : F.fn 78) (hro : F.round = none) (hn : 1 ≤ n) (Bs n₀ cap : Nat) (A : Option Addr) (xs : List Nat) (hd : Dig xs) (hlen : xs.length ≤ 1000000) (w0 w : World) (hBs : Bs < w.heap.size) (hn₀ : n₀ ≤ w.heap.size)
    (hc : w.cell? ⟨Bs, 0, none⟩ = some (.slice A xs.length cap)) (hU : Us w0 A cap xs) (h00 : w0.heap.size = n₀) (hb0 : Below n₀ w0 w) :
    SeqStopsK F n Try.prog 78 #[.pointer (some ⟨Bs, 0, none⟩)] (itemE (n := xs.length)) (BackK n₀ Bs) (fun ys => ys = its xs hd xs.length) (fun pre => ∃ k, k ≤ xs.length ∧ pre = its xs hd k) xs.length w := fun l J Jx W hW _ _ hY h0 => by
  have hc' := (hW.cell (p := ⟨Bs, 0, none⟩) hBs).trans hc
  rcases Nat.eq_zero_or_pos xs.length with hz | hz
  · rw [hz] at hc'
    refine (back1_nil_in F n h46 hro l Bs cap A W hc' (fun W' => J [] W') h0).mono fun e W' ⟨he, hj⟩ => ⟨he, .inl ⟨_, rfl, ?_⟩⟩
    rw [hz]
    exact hj
  · obtain ⟨b, off, rfl, hb, hcs⟩ := hU.at_ hz
    rw [h00] at hb
    exact back1_in F n h46 hro hn l Bs n₀ b off cap xs hd hlen hb J Jx hY W hc' (fun j hj => ((hb0.trans (hW.mono hn₀)).cell (p := ⟨b, off + j, none⟩) hb).trans (hcs j hj)) h0

/-- A function that ranges over a function: its contract from its body. -/
theorem calls_of_wide {P : Program} {f : FuncId} {fn : Func} {c : Code} {args : Array Value} {w : World} {R : Ending → World → Prop} (hf : P.funcs[f]? = some fn) (hb : fn.body = some c)
    (h : c.wp P (bodyPostM Fence.wide 4 P fn R) { tmps := args ++ Array.replicate (fn.ntmps - args.size) undef, defers := [] } w) : Calls P f args w R :=
  (callsIn_wide (n := 4)).1 (callsIn_of_wp_marks hf hb trivial (wpIn_wide.2 h) rfl)

end Go.Proofs.Ythkeehfoefjnfaa
