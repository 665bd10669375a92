/-
  node: maps of nodes that the call has made.
-/
import Derived.Test.YtilhnnbmplnnpaaNdFits
import Derived.Maps.Own
import Derived.DeepKeys4
import Derived.Laws.StructEq

namespace Go.Proofs.Ytilhnnbmplnnpaa
set_option linter.unusedVariables false
set_option linter.unusedSimpArgs false
open Go.RowKit Nds Go.Maps
theorem Try.laidOutK : laidOutB Try.prog = true := by kernel_rfl
theorem Try.rowK : (35 : TypeId) < Try.prog.types.size := of_decide_eq_true (by kernel_rfl)
theorem Try.wideK : (match Try.prog.underlying 35 with | some (.array _ _) | some (.struct _) => true | _ => false) = true := by kernel_rfl
theorem Try.nodeLaw : Keyed Try.prog 35 := Keyed.of_law (deep_law_laid Try.laidOutK (m := 4) (by omega) Try.rowK (by kernel_rfl) Try.wideK)
theorem Try.nodeKT : Try.prog.keyType 35 = true := by kernel_rfl
theorem Try.cellsN : Try.prog.cellsOf 35 = 5 := by kernel_rfl
theorem Try.cells4 : Try.prog.cellsOf 33 = 4 := by kernel_rfl
theorem Try.cells1 : Try.prog.cellsOf 3 = 1 := by kernel_rfl
theorem key_int {n : Int} (h : in64 n) (d : Nat) : Try.prog.keyLits (d + 1) 3 [.int .i64 n] = some [.int .i64 n] := by
  have hw : (Lit.int .i64 n).wf = true := WalkArith.wf_i64 h
  simp [Program.keyLits, Try.underlying3, hw]
theorem key_four {a b c d : Int} (ha : in64 a) (hb : in64 b) (hc : in64 c) (hd : in64 d) (m : Nat) :
    Try.prog.keyLits (m + 2) 33 [.int .i64 a, .int .i64 b, .int .i64 c, .int .i64 d] = some [.int .i64 a, .int .i64 b, .int .i64 c, .int .i64 d] := by
  have e : Try.prog.keyLits (m + 2) 33 [.int .i64 a, .int .i64 b, .int .i64 c, .int .i64 d] = ((List.range 4).mapM fun i => Try.prog.keyLits (m + 1) 3 (([.int .i64 a, .int .i64 b, .int .i64 c, .int .i64 d].drop (i * Try.prog.cellsOf 3)).take (Try.prog.cellsOf 3))).map List.flatten := by
    unfold Program.keyLits
    simp only [Try.underlying33]
    rw [if_pos (by rw [Try.cells4]; rfl)]
    rfl
  rw [e, Try.cells1]
  simp [List.range, List.range.loop, key_int ha, key_int hb, key_int hc, key_int hd]
theorem key_five (x : Nd) (h : x.wf) (m : Nat) : Try.prog.keyLits (m + 3) 35 [.int .i64 x.lv, .int .i64 x.a, .int .i64 x.b, .int .i64 x.c, .int .i64 x.d] = some [.int .i64 x.lv, .int .i64 x.a, .int .i64 x.b, .int .i64 x.c, .int .i64 x.d] := by
  obtain ⟨h0, h1, h2, h3, h4⟩ := h
  unfold Program.keyLits
  simp only [Try.underlying35]
  simp [Try.cellsN, Try.cells4, Try.cells1, key_int h0, key_four h1 h2 h3 h4]
theorem form_node (x : Nd) : (ndv x).formed Try.prog 35 = true := by simp [Value.formed, Try.underlying35, Try.cellsN]
theorem form_four (a b c d : Int) : (Value.agg #[.int .i64 a, .int .i64 b, .int .i64 c, .int .i64 d]).formed Try.prog 33 = true := by simp [Value.formed, Try.underlying33, Try.cells4]
/-- Two nodes compared. -/
theorem equal_node (x y : Nd) (hx : x.wf) (hy : y.wf) (w : World) : (Op.equalIn 10000 35 (ndv x) (ndv y)).run Try.prog w = .ok (decide (x = y)) w := by
  obtain ⟨r, hr, hi⟩ := run_equalIn_deep (P := Try.prog) 9996 4 35 (by kernel_rfl) w 3 3 (ndv x) (ndv y) _ _ (form_node x) (form_node y) (key_five x hx 0) (key_five y hy 0)
  have e : r = decide (x = y) := by
    rw [Bool.eq_iff_iff, hi, decide_eq_true_iff]
    constructor
    · intro h
      simp only [List.cons.injEq, Lit.int.injEq, true_and, and_true] at h
      exact Nd.ext' h.1 h.2.1 h.2.2.1 h.2.2.2.1 h.2.2.2.2
    · rintro rfl
      rfl
  rw [← e]
  exact hr
theorem neq_node (x y : Nd) (hx : x.wf) (hy : y.wf) (w : World) : (binOp .neq 35 (ndv x) (ndv y)).run Try.prog w = .ok (.bool (!decide (x = y))) w := by
  rw [run_neq_struct, equal_node x y hx hy]
  rfl
theorem in64_0 : in64 0 := ⟨by omega, by omega⟩
/-- No kid at all? -/
theorem eql_four (x : Nd) (hx : x.wf) (w : World) : (binOp .eql 33 (.agg #[.int .i64 x.a, .int .i64 x.b, .int .i64 x.c, .int .i64 x.d]) (.agg #[.int .i64 0, .int .i64 0, .int .i64 0, .int .i64 0])).run Try.prog w = .ok (.bool (x.each (· == 0))) w := by
  obtain ⟨h0, h1, h2, h3, h4⟩ := hx
  obtain ⟨r, hr, hi⟩ := run_equalIn_deep (P := Try.prog) 9996 4 33 (by kernel_rfl) w 2 2 _ _ _ _ (form_four x.a x.b x.c x.d) (form_four 0 0 0 0) (key_four h1 h2 h3 h4 0) (key_four in64_0 in64_0 in64_0 in64_0 0)
  have e : r = x.each (· == 0) := by
    rw [Bool.eq_iff_iff, hi]
    unfold Nd.each
    simp [and_assoc]
  rw [run_eql_struct, ← e, show (10000 : Nat) = 9996 + 4 from rfl, hr]
  rfl
theorem key_node (x : Nd) (h : x.wf) : ∃ l, keyOf Try.prog 35 (ndv x) = some l := by
  have hf := form_node x
  obtain ⟨m, hm⟩ : ∃ m, Try.prog.types.size + 1 = m + 3 := ⟨Try.prog.types.size - 2, by have : (35 : Nat) < Try.prog.types.size := Try.rowK; omega⟩
  have e := key_five x h m
  unfold keyOf
  rw [Try.underlying35]
  simp only [Try.nodeKT, hf, Bool.and_self, if_true, hm]
  simp only [Value.cells, e, Option.map_some]
  exact ⟨_, rfl⟩
/-- Block b is a map that knows the nodes of S, and no others. -/
def NM (w : World) (b : Nat) (S : List Nd) : Prop :=
  (∀ y ∈ S, y.wf) ∧ ∃ es clock, w.heap[b]? = some (.map es clock) ∧ (∀ e ∈ es.toList, ∃ y ∈ S, e.key = ndv y ∧ e.val = .bool true) ∧ ∀ y ∈ S, ∃ e ∈ es.toList, e.key = ndv y
theorem ndv_inj {x y : Nd} (h : ndv x = ndv y) : x = y := by
  simp only [ndv, Value.agg.injEq, Array.mk.injEq, List.cons.injEq, Value.int.injEq, true_and, and_true] at h
  exact Nd.ext' h.1 h.2.1 h.2.2.1 h.2.2.2.1 h.2.2.2.2
theorem NM.keys {S : List Nd} {es : Array MapEntry} (hS : ∀ y ∈ S, y.wf) (h : ∀ e ∈ es.toList, ∃ y ∈ S, e.key = ndv y ∧ e.val = .bool true) : ∀ e ∈ es.toList, ∃ l, keyOf Try.prog 35 e.key = some l := by
  intro e he
  obtain ⟨y, hy, hk, _⟩ := h e he
  rw [hk]
  exact key_node y (hS y hy)
theorem NM.lt {w : World} {b : Nat} {S : List Nd} (h : NM w b S) : b < w.heap.size := by
  obtain ⟨_, es, clock, hb, _⟩ := h
  exact (Array.getElem?_eq_some_iff.1 hb).1
theorem NM.stay {w w' : World} {b : Nat} {S : List Nd} (h : NM w b S) (hb : w'.heap[b]? = w.heap[b]?) : NM w' b S := by
  obtain ⟨hS, es, clock, hh, r⟩ := h
  exact ⟨hS, es, clock, hb.trans hh, r⟩
theorem NM.made (w : World) : NM (w.alloc (.map #[] 0)) w.heap.size [] :=
  ⟨by simp, #[], 0, heap_alloc_new w _, by simp, by simp⟩
theorem Try.zeroB (w : World) : (zeroValue 4).run Try.prog w = .ok (.bool false) w := by kernel_rfl
theorem NM.look {w : World} {b : Nat} {S : List Nd} (h : NM w b S) (x : Nd) (hx : x.wf) :
    (Instr.lookup 44 (.map (some b)) (ndv x) false).run Try.prog w = .ok (.bool (decide (x ∈ S))) w := by
  obtain ⟨hS, es, clock, hb, h1, h2⟩ := h
  obtain ⟨kl, hkey⟩ := key_node x hx
  rcases Try.nodeLaw.find w hkey es.toList (NM.keys hS h1) with ⟨f1, f2⟩ | ⟨j, e0, f1, f2, f3⟩
  · have hn : x ∉ S := fun hm => by
      obtain ⟨e, he, hk⟩ := h2 x hm
      exact f2 e he hk
    rw [decide_eq_false hn]
    simp [Instr.lookup, run_underlying Try.underlying44, MapKept.run_getObj_map hb, Try.nodeLaw.check w _ hkey, f1, Try.zeroB, Result.andThen]
  · have hm0 : e0 ∈ es.toList := List.mem_of_getElem? f2
    obtain ⟨y, hy, hk, hv⟩ := h1 e0 hm0
    have hm : x ∈ S := by
      rw [f3] at hk
      rw [ndv_inj hk]
      exact hy
    rw [decide_eq_true hm]
    simp [Instr.lookup, run_underlying Try.underlying44, MapKept.run_getObj_map hb, Try.nodeLaw.check w _ hkey, f1, hv, Result.andThen]
theorem NM.store {w : World} {b : Nat} {S : List Nd} (h : NM w b S) (x : Nd) (hx : x.wf) :
    ∃ w', (Instr.mapUpdate 44 (.map (some b)) (ndv x) (.bool true)).run Try.prog w = .ok () w' ∧ NM w' b (x :: S) ∧ w.grownBy w' (some b) := by
  obtain ⟨hS, es, clock, hb, h1, h2⟩ := h
  obtain ⟨kl, hkey⟩ := key_node x hx
  have hS' : ∀ y ∈ x :: S, y.wf := fun y hy => by
    rcases List.mem_cons.1 hy with rfl | hy
    · exact hx
    · exact hS y hy
  rcases Try.nodeLaw.find w hkey es.toList (NM.keys hS h1) with ⟨f1, f2⟩ | ⟨j, e0, f1, f2, f3⟩
  · refine ⟨ChangeMaps.setBlock w b (.map (es.push ⟨ndv x, .bool true, clock⟩) (clock + 1)), ?_, ⟨hS', _, _, ChangeMaps.heap_setBlock_same hb _, ?_, ?_⟩, ⟨rfl, rfl, rfl, by simp [ChangeMaps.setBlock], fun i _ hi => ChangeMaps.heap_setBlock_other hb _ (fun e => hi (by rw [e]))⟩⟩
    · simp [Instr.mapUpdate, run_underlying Try.underlying44, MapKept.run_getObj_map hb, Try.nodeLaw.check w false hkey, f1, MapKept.run_setObj_map _ hb, Result.andThen, ChangeMaps.setBlock]
    · intro e he
      simp only [Array.toList_push, List.mem_append, List.mem_singleton] at he
      rcases he with he | rfl
      · obtain ⟨y, hy, r⟩ := h1 e he
        exact ⟨y, List.mem_cons_of_mem _ hy, r⟩
      · exact ⟨x, by simp, rfl, rfl⟩
    · intro y hy
      rcases List.mem_cons.1 hy with rfl | hy
      · exact ⟨_, by simp only [Array.toList_push, List.mem_append, List.mem_singleton]; exact .inr rfl, rfl⟩
      · obtain ⟨e, he, hk⟩ := h2 y hy
        exact ⟨e, by simp only [Array.toList_push, List.mem_append]; exact .inl he, hk⟩
  · have hj : es[j]? = some e0 := by simpa using f2
    have hlist : (es.modify j (fun e' => { e' with key := ndv x, val := .bool true })).toList = es.toList.set j { e0 with key := ndv x, val := .bool true } := by rw [Array.toList_modify, ChangeMaps.modify_eq_set _ _ _ _ f2]
    have hm0 : e0 ∈ es.toList := List.mem_of_getElem? f2
    obtain ⟨y0, hy0, hk0, hv0⟩ := h1 e0 hm0
    refine ⟨ChangeMaps.setBlock w b (.map (es.modify j (fun e' => { e' with key := ndv x, val := .bool true })) clock), ?_, ⟨hS', _, _, ChangeMaps.heap_setBlock_same hb _, ?_, ?_⟩, ⟨rfl, rfl, rfl, by simp [ChangeMaps.setBlock], fun i _ hi => ChangeMaps.heap_setBlock_other hb _ (fun e => hi (by rw [e]))⟩⟩
    · simp [Instr.mapUpdate, run_underlying Try.underlying44, MapKept.run_getObj_map hb, Try.nodeLaw.check w false hkey, f1, hj, f3, Try.nodeLaw.stays w hkey, MapKept.run_setObj_map _ hb, Result.andThen, ChangeMaps.setBlock]
    · intro e he
      rw [hlist] at he
      rcases List.mem_or_eq_of_mem_set he with he | rfl
      · obtain ⟨y, hy, r⟩ := h1 e he
        exact ⟨y, List.mem_cons_of_mem _ hy, r⟩
      · exact ⟨x, by simp, rfl, rfl⟩
    · have hjl : j < es.toList.length := (List.getElem?_eq_some_iff.1 f2).1
      intro y hy
      have hnew : ({ e0 with key := ndv x, val := .bool true } : MapEntry) ∈ es.toList.set j { e0 with key := ndv x, val := .bool true } := List.mem_set hjl _
      rw [hlist]
      rcases List.mem_cons.1 hy with rfl | hy
      · exact ⟨_, hnew, rfl⟩
      · obtain ⟨e, he, hk⟩ := h2 y hy
        by_cases hyx : y = x
        · exact ⟨_, hnew, by rw [hyx]⟩
        · refine ⟨e, ?_, hk⟩
          obtain ⟨i, hi⟩ := List.mem_iff_getElem?.1 he
          refine List.mem_iff_getElem?.2 ⟨i, ?_⟩
          rw [List.getElem?_set_ne (fun e1 => ?_)]
          · exact hi
          · subst e1
            rw [f2] at hi
            cases hi
            rw [f3] at hk
            exact hyx (ndv_inj hk).symm
/-- A store of a node into such a map, for the walk. -/
theorem wpList_store_nm (w : World) {ops : Array Oper} {rest : List Oper} {o : Oper} {a : Act} {Q : Exit → Act → World → Prop}
    (hg : o.guard = none) (m x v : Operand) (hop : o.op = Op.mapUpdate 44 m x v) (b : Nat) (S : List Nd) (y : Nd)
    (hm : a.eval m = .map (some b)) (hx : a.eval x = ndv y) (hv : a.eval v = .bool true) (hown : NM w b S) (hy : y.wf)
    (hK : ∀ w', NM w' b (y :: S) → w.grownBy w' (some b) → wpList Try.prog ops Q rest (a.put o.dst undef) w') :
    wpList Try.prog ops Q (o :: rest) a w := by
  refine wpList_plain hg fun K' hK' => ?_
  obtain ⟨w', hrun, r1, r2⟩ := hown.store y hy
  unfold Oper.wp
  simp [execOp, hop, hm, hx, hv, hrun, Result.andThen]
  exact hK' _ _ (hK w' r1 r2)
end Go.Proofs.Ytilhnnbmplnnpaa
