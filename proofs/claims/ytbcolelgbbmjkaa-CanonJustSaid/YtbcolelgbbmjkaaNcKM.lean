/-
  canon: the maps of ordered.
-/
import Derived.Test.YtbcolelgbbmjkaaNcRV

namespace Go.Proofs.Ytbcolelgbbmjkaa
set_option linter.unusedVariables false
set_option linter.unusedSimpArgs false
open Go.RowKit Nds Go.Maps
theorem Try.intLaw : Keyed Try.prog 3 := int_keyed Try.underlying3
theorem key_i (n : Int) (h : in64 n) : ∃ kl, keyOf Try.prog 3 (.int .i64 n) = some kl := ⟨_, keyOf_int_mk Try.underlying3 (WalkArith.wf_i64 h)⟩
theorem Try.zeroI (w : World) : (zeroValue 3).run Try.prog w = .ok (.int .i64 0) w := by kernel_rfl
/-- Block b is a map that knows each node's number in out. -/
def KM (w : World) (b : Nat) (out : List Nd) : Prop :=
  ∃ es clock, w.heap[b]? = some (.map es clock) ∧ (∀ e ∈ es.toList, ∃ i, i < out.length ∧ e.key = ndv (at_ out i) ∧ e.val = .int .i64 ((i : Int) + 1)) ∧ ∀ i, i < out.length → ∃ e ∈ es.toList, e.key = ndv (at_ out i)
theorem KM.lt {w : World} {b : Nat} {out : List Nd} (h : KM w b out) : b < w.heap.size := by
  obtain ⟨es, clock, hb, _⟩ := h
  exact (Array.getElem?_eq_some_iff.1 hb).1
theorem KM.stay {w w' : World} {b : Nat} {out : List Nd} (h : KM w b out) (hb : w'.heap[b]? = w.heap[b]?) : KM w' b out := by
  obtain ⟨es, clock, hh, r⟩ := h
  exact ⟨es, clock, hb.trans hh, r⟩
theorem KM.keys {out : List Nd} {es : Array MapEntry} (hS : ∀ y ∈ out, y.wf) (h : ∀ e ∈ es.toList, ∃ i, i < out.length ∧ e.key = ndv (at_ out i) ∧ e.val = .int .i64 ((i : Int) + 1)) : ∀ e ∈ es.toList, ∃ l, keyOf Try.prog 38 e.key = some l := by
  intro e he
  obtain ⟨i, hi, hk, _⟩ := h e he
  rw [hk]
  exact key_node _ (hS _ (at_mem hi))
theorem KM.lookK {w : World} {b : Nat} {out : List Nd} (h : KM w b out) (hg : GoodL out) (hS : ∀ y ∈ out, y.wf) (x : Nd) (hx : x.wf) :
    (Instr.lookup 53 (.map (some b)) (ndv x) false).run Try.prog w = .ok (.int .i64 ((fnd out x : Nat) : Int)) w := by
  obtain ⟨es, clock, hb, h1, h2⟩ := h
  obtain ⟨kl, hkey⟩ := key_node x hx
  rcases Try.nodeLaw.find w hkey es.toList (KM.keys hS h1) with ⟨f1, f2⟩ | ⟨j, e0, f1, f2, f3⟩
  · have hn : fnd out x = 0 := fnd_none fun i hi e => by
      obtain ⟨e0, he, hk⟩ := h2 i hi
      rw [e] at hk
      exact f2 e0 he hk
    rw [hn]
    simp [Instr.lookup, run_underlying Try.underlying53, MapKept.run_getObj_map hb, Try.nodeLaw.check w _ hkey, f1, Try.zeroI, Result.andThen]
  · obtain ⟨i, hi, hk, hv⟩ := h1 e0 (List.mem_of_getElem? f2)
    rw [f3] at hk
    have e := ndv_inj hk
    rw [e, good_fnd hg hi]
    rw [e] at hkey f1
    simp [Instr.lookup, run_underlying Try.underlying53, MapKept.run_getObj_map hb, Try.nodeLaw.check w _ hkey, f1, hv, Result.andThen]
theorem KM.putK {w : World} {b : Nat} {out : List Nd} (h : KM w b out) (hS : ∀ y ∈ out, y.wf) (x : Nd) (hx : x.wf) (hf : fnd out x = 0) :
    ∃ w', (Instr.mapUpdate 53 (.map (some b)) (ndv x) (.int .i64 ((out.length : Int) + 1))).run Try.prog w = .ok () w' ∧ KM w' b (out ++ [x]) ∧ w.grownBy w' (some b) := by
  obtain ⟨es, clock, hb, h1, h2⟩ := h
  obtain ⟨kl, hkey⟩ := key_node x hx
  have hno : ∀ j, j < out.length → at_ out j ≠ x := by
    rcases fnd_cases out x with ⟨_, h⟩ | ⟨i, _, _, h⟩
    · exact h
    · omega
  rcases Try.nodeLaw.find w hkey es.toList (KM.keys hS h1) with ⟨f1, f2⟩ | ⟨j, e0, f1, f2, f3⟩
  · refine ⟨ChangeMaps.setBlock w b (.map (es.push ⟨ndv x, .int .i64 ((out.length : Int) + 1), clock⟩) (clock + 1)), ?_, ⟨_, _, ChangeMaps.heap_setBlock_same hb _, ?_, ?_⟩, ⟨rfl, rfl, rfl, by simp [ChangeMaps.setBlock], fun i _ hi => ChangeMaps.heap_setBlock_other hb _ (fun e => hi (by rw [e]))⟩⟩
    · simp [Instr.mapUpdate, run_underlying Try.underlying53, MapKept.run_getObj_map hb, Try.nodeLaw.check w false hkey, f1, MapKept.run_setObj_map _ hb, Result.andThen, ChangeMaps.setBlock]
    · intro e he
      simp only [Array.toList_push, List.mem_append, List.mem_singleton] at he
      rcases he with he | rfl
      · obtain ⟨i, hi, hk, hv⟩ := h1 e he
        exact ⟨i, by simp; omega, by rw [at_app hi]; exact hk, hv⟩
      · exact ⟨out.length, by simp, by rw [at_last], rfl⟩
    · intro i hi
      simp only [List.length_append, List.length_cons, List.length_nil] at hi
      simp only [Array.toList_push, List.mem_append, List.mem_singleton]
      rcases Nat.lt_or_ge i out.length with h3 | h3
      · obtain ⟨e, he, hk⟩ := h2 i h3
        exact ⟨e, .inl he, by rw [at_app h3]; exact hk⟩
      · exact ⟨_, .inr rfl, by rw [show i = out.length by omega, at_last]⟩
  · obtain ⟨i, hi, hk, _⟩ := h1 e0 (List.mem_of_getElem? f2)
    rw [f3] at hk
    exact absurd (ndv_inj hk).symm (hno i hi)
theorem wpList_store_km (w : World) {ops : Array Oper} {rest : List Oper} {o : Oper} {a : Act} {Q : Exit → Act → World → Prop}
    (hg : o.guard = none) (m x v : Operand) (hop : o.op = Op.mapUpdate 53 m x v) (b : Nat) (out : List Nd) (y : Nd) (u : Int)
    (hm : a.eval m = .map (some b)) (hx : a.eval x = ndv y) (hv : a.eval v = .int .i64 u) (hu : u = (out.length : Int) + 1) (hown : KM w b out) (hS : ∀ y ∈ out, y.wf) (hy : y.wf) (hf : fnd out y = 0)
    (hK : ∀ w', KM w' b (out ++ [y]) → w.grownBy w' (some b) → wpList Try.prog ops Q rest (a.put o.dst undef) w') :
    wpList Try.prog ops Q (o :: rest) a w := by
  subst hu
  refine wpList_plain hg fun K' hK' => ?_
  obtain ⟨w', hrun, r1, r2⟩ := hown.putK hS y hy hf
  unfold Oper.wp
  simp [execOp, hop, hm, hx, hv, hrun, Result.andThen]
  exact hK' _ _ (hK w' r1 r2)
/-- Block b is a map that knows numbers of l's nodes in out, and 0's. -/
def MM (l : List Nd) (w : World) (b : Nat) (out : List Nd) : Prop :=
  ∃ es clock, w.heap[b]? = some (.map es clock) ∧ (∀ e ∈ es.toList, ∃ (n : Nat) (k : Int), n ≤ l.length ∧ e.key = .int .i64 (n : Int) ∧ e.val = .int .i64 k ∧ NumT out (den l n) k) ∧ ∃ e ∈ es.toList, e.key = .int .i64 0
theorem MM.lt {l : List Nd} {w : World} {b : Nat} {out : List Nd} (h : MM l w b out) : b < w.heap.size := by
  obtain ⟨es, clock, hb, _⟩ := h
  exact (Array.getElem?_eq_some_iff.1 hb).1
theorem MM.stay {l : List Nd} {w w' : World} {b : Nat} {out : List Nd} (h : MM l w b out) (hb : w'.heap[b]? = w.heap[b]?) : MM l w' b out := by
  obtain ⟨es, clock, hh, r⟩ := h
  exact ⟨es, clock, hb.trans hh, r⟩
theorem MM.pre {l : List Nd} {w : World} {b : Nat} {out out' : List Nd} (h : MM l w b out) (hp : out <+: out') : MM l w b out' := by
  obtain ⟨es, clock, hh, h1, h2⟩ := h
  refine ⟨es, clock, hh, fun e he => ?_, h2⟩
  obtain ⟨n, k, a1, a2, a3, a4⟩ := h1 e he
  exact ⟨n, k, a1, a2, a3, num_pre hp a4⟩
theorem MM.keys {l out : List Nd} {es : Array MapEntry} (hl : l.length ≤ 1000000) (h : ∀ e ∈ es.toList, ∃ (n : Nat) (k : Int), n ≤ l.length ∧ e.key = .int .i64 (n : Int) ∧ e.val = .int .i64 k ∧ NumT out (den l n) k) : ∀ e ∈ es.toList, ∃ kl, keyOf Try.prog 3 e.key = some kl := by
  intro e he
  obtain ⟨n, k, hn, hk, _⟩ := h e he
  rw [hk]
  exact key_i _ ⟨by omega, by omega⟩
theorem int_inj {a b : Nat} (h : Value.int .i64 (a : Int) = .int .i64 (b : Int)) : a = b := by
  simp only [Value.int.injEq, true_and] at h
  omega
/-- Asked with the second answer. -/
theorem MM.lookM {l : List Nd} {w : World} {b : Nat} {out : List Nd} (h : MM l w b out) (hl : l.length ≤ 1000000) (n : Nat) (hn : n ≤ l.length) :
    (∃ k, (Instr.lookup 55 (.map (some b)) (.int .i64 (n : Int)) true).run Try.prog w = .ok (.tuple #[.int .i64 k, .bool true]) w ∧ NumT out (den l n) k) ∨
    ((Instr.lookup 55 (.map (some b)) (.int .i64 (n : Int)) true).run Try.prog w = .ok (.tuple #[.int .i64 0, .bool false]) w ∧ n ≠ 0) := by
  obtain ⟨es, clock, hb, h1, h2⟩ := h
  obtain ⟨kl, hkey⟩ := key_i (n : Int) ⟨by omega, by omega⟩
  rcases Try.intLaw.find w hkey es.toList (MM.keys hl h1) with ⟨f1, f2⟩ | ⟨j, e0, f1, f2, f3⟩
  · refine .inr ⟨?_, fun e => ?_⟩
    · simp [Instr.lookup, run_underlying Try.underlying55, MapKept.run_getObj_map hb, Try.intLaw.check w _ hkey, f1, Try.zeroI, Result.andThen]
    · subst e
      obtain ⟨e, he, hk⟩ := h2
      exact f2 e he hk
  · obtain ⟨n', k, hi, hk, hv, hnum⟩ := h1 e0 (List.mem_of_getElem? f2)
    rw [f3] at hk
    have e := int_inj hk
    subst e
    refine .inl ⟨k, ?_, hnum⟩
    simp [Instr.lookup, run_underlying Try.underlying55, MapKept.run_getObj_map hb, Try.intLaw.check w _ hkey, f1, hv, Result.andThen]
theorem numT_uniq {out : List Nd} (hg : GoodL out) {t : Tr} {a b : Int} (ha : NumT out t a) (hb : NumT out t b) : a = b := by
  have h1 := enc_memo hg t a ha
  rw [enc_memo hg t b hb] at h1
  exact (congrArg Prod.snd h1).symm
/-- A store, and what is found behind it. -/
theorem MM.putM {l : List Nd} {w : World} {b : Nat} {out : List Nd} (h : MM l w b out) (hg : GoodL out) (hl : l.length ≤ 1000000) (n : Nat) (hn : n ≤ l.length) {k : Int} (hk : NumT out (den l n) k) :
    ∃ w', (Instr.mapUpdate 55 (.map (some b)) (.int .i64 (n : Int)) (.int .i64 k)).run Try.prog w = .ok () w' ∧ MM l w' b out ∧ w.grownBy w' (some b) ∧ (Instr.lookup 55 (.map (some b)) (.int .i64 (n : Int)) false).run Try.prog w' = .ok (.int .i64 k) w' := by
  obtain ⟨kl, hkey⟩ := key_i (n : Int) ⟨by omega, by omega⟩
  suffices hs : ∃ w', (Instr.mapUpdate 55 (.map (some b)) (.int .i64 (n : Int)) (.int .i64 k)).run Try.prog w = .ok () w' ∧ MM l w' b out ∧ w.grownBy w' (some b) ∧ ∃ es clock, w'.heap[b]? = some (.map es clock) ∧ ∃ e ∈ es.toList, e.key = .int .i64 (n : Int) by
    obtain ⟨w', r1, r2, r3, es, clock, hb', e, he, hke⟩ := hs
    refine ⟨w', r1, r2, r3, ?_⟩
    obtain ⟨es', clock', hb2, h1, _⟩ := r2
    rw [hb'] at hb2
    cases hb2
    rcases Try.intLaw.find w' hkey es.toList (MM.keys hl h1) with ⟨f1, f2⟩ | ⟨j, e0, f1, f2, f3⟩
    · exact absurd hke (f2 e he)
    · obtain ⟨n', k', hi, hk', hv, hnum⟩ := h1 e0 (List.mem_of_getElem? f2)
      rw [f3] at hk'
      have e := int_inj hk'
      subst e
      rw [numT_uniq hg hk hnum]
      simp [Instr.lookup, run_underlying Try.underlying55, MapKept.run_getObj_map hb', Try.intLaw.check w' _ hkey, f1, hv, Result.andThen]
  obtain ⟨es, clock, hb, h1, h2⟩ := h
  rcases Try.intLaw.find w hkey es.toList (MM.keys hl h1) with ⟨f1, f2⟩ | ⟨j, e0, f1, f2, f3⟩
  · refine ⟨ChangeMaps.setBlock w b (.map (es.push ⟨.int .i64 (n : Int), .int .i64 k, clock⟩) (clock + 1)), ?_, ⟨_, _, ChangeMaps.heap_setBlock_same hb _, ?_, ?_⟩, ⟨rfl, rfl, rfl, by simp [ChangeMaps.setBlock], fun i _ hi => ChangeMaps.heap_setBlock_other hb _ (fun e => hi (by rw [e]))⟩, _, _, ChangeMaps.heap_setBlock_same hb _, ?_⟩
    · simp [Instr.mapUpdate, run_underlying Try.underlying55, MapKept.run_getObj_map hb, Try.intLaw.check w false hkey, f1, MapKept.run_setObj_map _ hb, Result.andThen, ChangeMaps.setBlock]
    · intro e he
      simp only [Array.toList_push, List.mem_append, List.mem_singleton] at he
      rcases he with he | rfl
      · exact h1 e he
      · exact ⟨n, k, hn, rfl, rfl, hk⟩
    · obtain ⟨e, he, hke⟩ := h2
      exact ⟨e, by simp only [Array.toList_push, List.mem_append]; exact .inl he, hke⟩
    · exact ⟨_, by simp only [Array.toList_push, List.mem_append, List.mem_singleton]; exact .inr rfl, rfl⟩
  · have hj : es[j]? = some e0 := by simpa using f2
    have hlist : (es.modify j (fun e' => { e' with key := .int .i64 (n : Int), val := .int .i64 k })).toList = es.toList.set j { e0 with key := .int .i64 (n : Int), val := .int .i64 k } := by rw [Array.toList_modify, ChangeMaps.modify_eq_set _ _ _ _ f2]
    have hjl : j < es.toList.length := (List.getElem?_eq_some_iff.1 f2).1
    have hnew : ({ e0 with key := .int .i64 (n : Int), val := .int .i64 k } : MapEntry) ∈ es.toList.set j { e0 with key := .int .i64 (n : Int), val := .int .i64 k } := List.mem_set hjl _
    refine ⟨ChangeMaps.setBlock w b (.map (es.modify j (fun e' => { e' with key := .int .i64 (n : Int), val := .int .i64 k })) clock), ?_, ⟨_, _, ChangeMaps.heap_setBlock_same hb _, ?_, ?_⟩, ⟨rfl, rfl, rfl, by simp [ChangeMaps.setBlock], fun i _ hi => ChangeMaps.heap_setBlock_other hb _ (fun e => hi (by rw [e]))⟩, _, _, ChangeMaps.heap_setBlock_same hb _, ?_⟩
    · simp [Instr.mapUpdate, run_underlying Try.underlying55, MapKept.run_getObj_map hb, Try.intLaw.check w false hkey, f1, hj, f3, Try.intLaw.stays w hkey, MapKept.run_setObj_map _ hb, Result.andThen, ChangeMaps.setBlock]
    · intro e he
      rw [hlist] at he
      rcases List.mem_or_eq_of_mem_set he with he | rfl
      · exact h1 e he
      · exact ⟨n, k, hn, rfl, rfl, hk⟩
    · obtain ⟨e, he, hke⟩ := h2
      rw [hlist]
      by_cases hn0 : n = 0
      · subst hn0
        exact ⟨_, hnew, rfl⟩
      · refine ⟨e, ?_, hke⟩
        obtain ⟨i, hi⟩ := List.mem_iff_getElem?.1 he
        refine List.mem_iff_getElem?.2 ⟨i, ?_⟩
        rw [List.getElem?_set_ne (fun e1 => ?_)]
        · exact hi
        · subst e1
          rw [f2] at hi
          cases hi
          rw [f3] at hke
          exact hn0 (int_inj (b := 0) hke)
    · rw [hlist]
      exact ⟨_, hnew, rfl⟩
end Go.Proofs.Ytbcolelgbbmjkaa
