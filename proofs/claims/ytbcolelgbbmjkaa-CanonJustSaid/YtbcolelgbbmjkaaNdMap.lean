/-
  node: maps of nodes that the call has made.
-/
import Derived.Test.YtbcolelgbbmjkaaNdFits
import Derived.Maps.Own
import Derived.DeepKeys4
import Derived.Laws.StructEq

namespace Go.Proofs.Ytbcolelgbbmjkaa
set_option linter.unusedVariables false
set_option linter.unusedSimpArgs false
open Go.RowKit Nds Go.Maps
theorem Try.laidOutK : laidOutB Try.prog = true := by kernel_rfl
theorem Try.rowK : (38 : TypeId) < Try.prog.types.size := of_decide_eq_true (by kernel_rfl)
theorem Try.wideK : (match Try.prog.underlying 38 with | some (.array _ _) | some (.struct _) => true | _ => false) = true := by kernel_rfl
theorem Try.nodeLaw : Keyed Try.prog 38 := Keyed.of_law (deep_law_laid Try.laidOutK (m := 4) (by omega) Try.rowK (by kernel_rfl) Try.wideK)
theorem Try.nodeKT : Try.prog.keyType 38 = true := by kernel_rfl
theorem Try.cellsN : Try.prog.cellsOf 38 = 5 := by kernel_rfl
theorem Try.cells4 : Try.prog.cellsOf 36 = 4 := by kernel_rfl
theorem Try.cells1 : Try.prog.cellsOf 3 = 1 := by kernel_rfl
theorem key_int {n : Int} (h : in64 n) (d : Nat) : Try.prog.keyLits (d + 1) 3 [.int .i64 n] = some [.int .i64 n] := by
  have hw : (Lit.int .i64 n).wf = true := WalkArith.wf_i64 h
  simp [Program.keyLits, Try.underlying3, hw]
theorem key_four {a b c d : Int} (ha : in64 a) (hb : in64 b) (hc : in64 c) (hd : in64 d) (m : Nat) :
    Try.prog.keyLits (m + 2) 36 [.int .i64 a, .int .i64 b, .int .i64 c, .int .i64 d] = some [.int .i64 a, .int .i64 b, .int .i64 c, .int .i64 d] := by
  have e : Try.prog.keyLits (m + 2) 36 [.int .i64 a, .int .i64 b, .int .i64 c, .int .i64 d] = ((List.range 4).mapM fun i => Try.prog.keyLits (m + 1) 3 (([.int .i64 a, .int .i64 b, .int .i64 c, .int .i64 d].drop (i * Try.prog.cellsOf 3)).take (Try.prog.cellsOf 3))).map List.flatten := by
    unfold Program.keyLits
    simp only [Try.underlying36]
    rw [if_pos (by rw [Try.cells4]; rfl)]
    rfl
  rw [e, Try.cells1]
  simp [List.range, List.range.loop, key_int ha, key_int hb, key_int hc, key_int hd]
theorem key_five (x : Nd) (h : x.wf) (m : Nat) : Try.prog.keyLits (m + 3) 38 [.int .i64 x.lv, .int .i64 x.a, .int .i64 x.b, .int .i64 x.c, .int .i64 x.d] = some [.int .i64 x.lv, .int .i64 x.a, .int .i64 x.b, .int .i64 x.c, .int .i64 x.d] := by
  obtain ⟨h0, h1, h2, h3, h4⟩ := h
  unfold Program.keyLits
  simp only [Try.underlying38]
  simp [Try.cellsN, Try.cells4, Try.cells1, key_int h0, key_four h1 h2 h3 h4]
theorem form_node (x : Nd) : (ndv x).formed Try.prog 38 = true := by simp [Value.formed, Try.underlying38, Try.cellsN]
theorem form_four (a b c d : Int) : (Value.agg #[.int .i64 a, .int .i64 b, .int .i64 c, .int .i64 d]).formed Try.prog 36 = true := by simp [Value.formed, Try.underlying36, Try.cells4]
/-- Two nodes compared. -/
theorem equal_node (x y : Nd) (hx : x.wf) (hy : y.wf) (w : World) : (Op.equalIn 10000 38 (ndv x) (ndv y)).run Try.prog w = .ok (decide (x = y)) w := by
  obtain ⟨r, hr, hi⟩ := run_equalIn_deep (P := Try.prog) 9996 4 38 (by kernel_rfl) w 3 3 (ndv x) (ndv y) _ _ (form_node x) (form_node y) (key_five x hx 0) (key_five y hy 0)
  have e : r = decide (x = y) := by
    rw [Bool.eq_iff_iff, hi, decide_eq_true_iff]
    constructor
    · intro h
      simp only [List.cons.injEq, Lit.int.injEq, true_and, and_true] at h
      exact Nd.ext' h.1 h.2.1 h.2.2.1 h.2.2.2.1 h.2.2.2.2
    · rintro rfl
      rfl
  rw [← e]
  exact hr
theorem neq_node (x y : Nd) (hx : x.wf) (hy : y.wf) (w : World) : (binOp .neq 38 (ndv x) (ndv y)).run Try.prog w = .ok (.bool (!decide (x = y))) w := by
  rw [run_neq_struct, equal_node x y hx hy]
  rfl
theorem in64_0 : in64 0 := ⟨by omega, by omega⟩
/-- No kid at all? -/
theorem eql_four (x : Nd) (hx : x.wf) (w : World) : (binOp .eql 36 (.agg #[.int .i64 x.a, .int .i64 x.b, .int .i64 x.c, .int .i64 x.d]) (.agg #[.int .i64 0, .int .i64 0, .int .i64 0, .int .i64 0])).run Try.prog w = .ok (.bool (x.each (· == 0))) w := by
  obtain ⟨h0, h1, h2, h3, h4⟩ := hx
  obtain ⟨r, hr, hi⟩ := run_equalIn_deep (P := Try.prog) 9996 4 36 (by kernel_rfl) w 2 2 _ _ _ _ (form_four x.a x.b x.c x.d) (form_four 0 0 0 0) (key_four h1 h2 h3 h4 0) (key_four in64_0 in64_0 in64_0 in64_0 0)
  have e : r = x.each (· == 0) := by
    rw [Bool.eq_iff_iff, hi]
    unfold Nd.each
    simp [and_assoc]
  rw [run_eql_struct, ← e, show (10000 : Nat) = 9996 + 4 from rfl, hr]
  rfl
theorem key_node (x : Nd) (h : x.wf) : ∃ l, keyOf Try.prog 38 (ndv x) = some l := by
  have hf := form_node x
  obtain ⟨m, hm⟩ : ∃ m, Try.prog.types.size + 1 = m + 3 := ⟨Try.prog.types.size - 2, by have : (38 : Nat) < Try.prog.types.size := Try.rowK; omega⟩
  have e := key_five x h m
  unfold keyOf
  rw [Try.underlying38]
  simp only [Try.nodeKT, hf, Bool.and_self, if_true, hm]
  simp only [Value.cells, e, Option.map_some]
  exact ⟨_, rfl⟩
/-- Block b is a map that knows the nodes of S, and no others. -/
def NM (w : World) (b : Nat) (S : List Nd) : Prop :=
  (∀ y ∈ S, y.wf) ∧ ∃ es clock, w.heap[b]? = some (.map es clock) ∧ (∀ e ∈ es.toList, ∃ y ∈ S, e.key = ndv y ∧ e.val = .bool true) ∧ ∀ y ∈ S, ∃ e ∈ es.toList, e.key = ndv y
theorem ndv_inj {x y : Nd} (h : ndv x = ndv y) : x = y := by
  simp only [ndv, Value.agg.injEq, Array.mk.injEq, List.cons.injEq, Value.int.injEq, true_and, and_true] at h
  exact Nd.ext' h.1 h.2.1 h.2.2.1 h.2.2.2.1 h.2.2.2.2
theorem NM.keys {S : List Nd} {es : Array MapEntry} (hS : ∀ y ∈ S, y.wf) (h : ∀ e ∈ es.toList, ∃ y ∈ S, e.key = ndv y ∧ e.val = .bool true) : ∀ e ∈ es.toList, ∃ l, keyOf Try.prog 38 e.key = some l := by
  intro e he
  obtain ⟨y, hy, hk, _⟩ := h e he
  rw [hk]
  exact key_node y (hS y hy)
theorem NM.lt {w : World} {b : Nat} {S : List Nd} (h : NM w b S) : b < w.heap.size := by
  obtain ⟨_, es, clock, hb, _⟩ := h
  exact (Array.getElem?_eq_some_iff.1 hb).1
theorem NM.stay {w w' : World} {b : Nat} {S : List Nd} (h : NM w b S) (hb : w'.heap[b]? = w.heap[b]?) : NM w' b S := by
  obtain ⟨hS, es, clock, hh, r⟩ := h
  exact ⟨hS, es, clock, hb.trans hh, r⟩
end Go.Proofs.Ytbcolelgbbmjkaa
