/-
  canon: Shrink.
  canon: a map that knows each node's number in a list.
  canon: the maps of ordered.
  canon: ordered's add.
-/
import Derived.Test.YtmfncapgikobkaaGreatGNcPB
import Derived.Deep.DeepCutAuto

namespace Go.Proofs.YtmfncapgikobkaaGreat
set_option maxRecDepth 100000
set_option linter.unusedVariables false
set_option linter.unusedSimpArgs false
open Go.RowKit Nds
structure Two (w : World) (base : Nat) (v u : Value) (L M : List Nd) (W : World) : Prop where
 one : OwnN W base v L
 two : OwnN W base u M
 apart : ∀ k, v.ownBlock = some k → u.ownBlock ≠ some k
 low : base ≤ W.heap.size
 below : Below base w W
theorem OwnN.mono {w : World} {base b : Nat} {v : Value} {l : List Nd} (h : OwnN w base v l) (hb : b ≤ base) : OwnN w b v l := by
 refine ⟨h.1, h.2.1, ?_⟩
 rcases h.2.2 with h2 | ⟨g, cap, cur, hv, hg, r⟩
 ·
  exact .inl h2
 ·
  exact .inr ⟨g, cap, cur, hv, Nat.le_trans hb hg, r⟩
theorem Two.alloc {w W : World} {base : Nat} {v u : Value} {L M : List Nd} (h : Two w base v u L M W) (o : Obj) : Two w base v u L M (W.alloc o) :=
 ⟨h.one.alloc o, h.two.alloc o, h.apart, by have := h.low; simp; omega, h.below.alloc h.low o⟩
theorem Two.step {w W W' : World} {base : Nat} {v u : Value} {L M : List Nd} (h : Two w base v u L M W) (b : Below W.heap.size W W') : Two w base v u L M W' :=
 ⟨h.one.stays b, h.two.stays b, h.apart, Nat.le_trans h.low b.size, h.below.trans (b.mono h.low)⟩
def SP (l : List Nd) (t : Tr) (G B : List Nd) (p : Nat) : Prop := SS l t B p ∧ Like G B ∧ Bar B ∧ looseB G = true
theorem SP.start {l : List Nd} (hl : looseB l = true) {p : Nat} (hp : p < l.length) (hne : den l (p + 1) ≠ .e) : SP l (shrT (den l (p + 1))) l (bareL l) p := by
 have hlk := like_bare hl
 have hs := SS.start (l := bareL l) (bare_dens hl).2 (p := p) (by rw [bare_len]; exact hp) (by rw [← like_den hlk]; exact hne)
 rw [← like_den hlk] at hs
 refine ⟨?_, hlk, bare_bar hl, hl⟩
 obtain ⟨h1, h2, h3, h4, h5⟩ := hs
 exact ⟨h1, h2, h3, h4, by rw [bare_len] at h5 ⊢; exact h5⟩
theorem SP.next {l G B : List Nd} {t : Tr} {p : Nat} (h : SP l t G B p) (hh : holT (den B (p + 1)) = true) : SP l t (G ++ [innN B (at_ B p)]) (B ++ [innN B (at_ B p)]) B.length := by
 obtain ⟨h1, h2, h3, h4⟩ := h
 obtain ⟨a1, a2, a3, a4, a5⟩ := id h1
 obtain ⟨hv, hne⟩ := hol_lv a1 a2 hh
 have hf := (inn_step a1 a2 hv hne).1
 exact ⟨h1.next hh, like_snoc h2 _, bar_snoc h3 a1 a2 hv hf, loose_snoc h4 (like_fit h2 hf)⟩
end Go.Proofs.YtmfncapgikobkaaGreat

namespace Go.Proofs.YtmfncapgikobkaaGreat
set_option maxRecDepth 100000
set_option linter.unusedVariables false
set_option linter.unusedSimpArgs false
open Go.RowKit Nds Go.Maps
theorem Tryz.zeroI (w : World) : (zeroValue 3).run Tryz.prog w = .ok (.int .i64 0) w := by kernel_rfl
def KM (w : World) (b : Nat) (out : List Nd) : Prop :=
 ∃ es clock, w.heap[b]? = some (.map es clock) ∧ (∀ e ∈ es.toList, ∃ i, i < out.length ∧ e.key = ndv (at_ out i) ∧ e.val = .int .i64 ((i : Int) + 1)) ∧ ∀ i, i < out.length → ∃ e ∈ es.toList, e.key = ndv (at_ out i)
theorem KM.lt {w : World} {b : Nat} {out : List Nd} (h : KM w b out) : b < w.heap.size := by
 obtain ⟨es, clock, hb, _⟩ := h
 exact (Array.getElem?_eq_some_iff.1 hb).1
theorem KM.stay {w w' : World} {b : Nat} {out : List Nd} (h : KM w b out) (hb : w'.heap[b]? = w.heap[b]?) : KM w' b out := by
 obtain ⟨es, clock, hh, r⟩ := h
 exact ⟨es, clock, hb.trans hh, r⟩
theorem KM.made (w : World) : KM (w.alloc (.map #[] 0)) w.heap.size [] :=
 ⟨#[], 0, heap_alloc_new w _, by simp, fun i hi => absurd hi (Nat.not_lt_zero i)⟩
theorem KM.keys {out : List Nd} {es : Array MapEntry} (hS : ∀ y ∈ out, y.wf) (h : ∀ e ∈ es.toList, ∃ i, i < out.length ∧ e.key = ndv (at_ out i) ∧ e.val = .int .i64 ((i : Int) + 1)) : ∀ e ∈ es.toList, ∃ l, keyOf Tryz.prog 56 e.key = some l := by
 intro e he
 obtain ⟨i, hi, hk, _⟩ := h e he
 rw [hk]
 exact key_node _ (hS _ (at_mem hi))
theorem KM.lookK {w : World} {b : Nat} {out : List Nd} (h : KM w b out) (hg : GoodL out) (hS : ∀ y ∈ out, y.wf) (x : Nd) (hx : x.wf) :
  (Instr.lookup 94 (.map (some b)) (ndv x) false).run Tryz.prog w = .ok (.int .i64 ((fnd out x : Nat) : Int)) w := by
 obtain ⟨es, clock, hb, h1, h2⟩ := h
 obtain ⟨kl, hkey⟩ := key_node x hx
 rcases Tryz.nodeLaw.find w hkey es.toList (KM.keys hS h1) with ⟨f1, f2⟩ | ⟨j, e0, f1, f2, f3⟩
 ·
  have hn : fnd out x = 0 := fnd_none fun i hi e => by
   obtain ⟨e0, he, hk⟩ := h2 i hi
   rw [e] at hk
   exact f2 e0 he hk
  rw [hn]
  simp [Instr.lookup, run_underlying Tryz.underlying94, MapKept.run_getObj_map hb, Tryz.nodeLaw.check w _ hkey, f1, Tryz.zeroI, Result.andThen]
 ·
  obtain ⟨i, hi, hk, hv⟩ := h1 e0 (List.mem_of_getElem? f2)
  rw [f3] at hk
  have e := ndv_inj hk
  rw [e, good_fnd hg hi]
  rw [e] at hkey f1
  simp [Instr.lookup, run_underlying Tryz.underlying94, MapKept.run_getObj_map hb, Tryz.nodeLaw.check w _ hkey, f1, hv, Result.andThen]
theorem KM.putK {w : World} {b : Nat} {out : List Nd} (h : KM w b out) (hS : ∀ y ∈ out, y.wf) (x : Nd) (hx : x.wf) (hf : fnd out x = 0) :
  ∃ w', (Instr.mapUpdate 94 (.map (some b)) (ndv x) (.int .i64 ((out.length : Int) + 1))).run Tryz.prog w = .ok () w' ∧ KM w' b (out ++ [x]) ∧ w.grownBy w' (some b) := by
 obtain ⟨es, clock, hb, h1, h2⟩ := h
 obtain ⟨kl, hkey⟩ := key_node x hx
 have hno : ∀ j, j < out.length → at_ out j ≠ x := by
  rcases fnd_cases out x with ⟨_, h⟩ | ⟨i, _, _, h⟩
  ·
   exact h
  ·
   omega
 rcases Tryz.nodeLaw.find w hkey es.toList (KM.keys hS h1) with ⟨f1, f2⟩ | ⟨j, e0, f1, f2, f3⟩
 ·
  refine ⟨ChangeMaps.setBlock w b (.map (es.push ⟨ndv x, .int .i64 ((out.length : Int) + 1), clock⟩) (clock + 1)), ?_, ⟨_, _, ChangeMaps.heap_setBlock_same hb _, ?_, ?_⟩, ⟨rfl, rfl, rfl, by simp [ChangeMaps.setBlock], fun i _ hi => ChangeMaps.heap_setBlock_other hb _ (fun e => hi (by rw [e]))⟩⟩
  ·
   simp [Instr.mapUpdate, run_underlying Tryz.underlying94, MapKept.run_getObj_map hb, Tryz.nodeLaw.check w false hkey, f1, MapKept.run_setObj_map _ hb, Result.andThen, ChangeMaps.setBlock]
  ·
   intro e he
   simp only [Array.toList_push, List.mem_append, List.mem_singleton] at he
   rcases he with he | rfl
   ·
    obtain ⟨i, hi, hk, hv⟩ := h1 e he
    exact ⟨i, by simp; omega, by rw [at_app hi]; exact hk, hv⟩
   ·
    exact ⟨out.length, by simp, by rw [at_last], rfl⟩
  ·
   intro i hi
   simp only [List.length_append, List.length_cons, List.length_nil] at hi
   simp only [Array.toList_push, List.mem_append, List.mem_singleton]
   rcases Nat.lt_or_ge i out.length with h3 | h3
   ·
    obtain ⟨e, he, hk⟩ := h2 i h3
    exact ⟨e, .inl he, by rw [at_app h3]; exact hk⟩
   ·
    exact ⟨_, .inr rfl, by rw [show i = out.length by omega, at_last]⟩
 ·
  obtain ⟨i, hi, hk, _⟩ := h1 e0 (List.mem_of_getElem? f2)
  rw [f3] at hk
  exact absurd (ndv_inj hk).symm (hno i hi)
end Go.Proofs.YtmfncapgikobkaaGreat

namespace Go.Proofs.YtmfncapgikobkaaGreat
set_option maxRecDepth 100000
set_option linter.unusedVariables false
set_option linter.unusedSimpArgs false
open Go.RowKit Nds Go.Maps
def MM (l : List Nd) (w : World) (b : Nat) (out : List Nd) : Prop :=
 ∃ es clock, w.heap[b]? = some (.map es clock) ∧ (∀ e ∈ es.toList, ∃ (n : Nat) (k : Int), n ≤ l.length ∧ e.key = .int .i64 (n : Int) ∧ e.val = .int .i64 k ∧ NumT out (den l n) k) ∧ ∃ e ∈ es.toList, e.key = .int .i64 0
theorem MM.lt {l : List Nd} {w : World} {b : Nat} {out : List Nd} (h : MM l w b out) : b < w.heap.size := by
 obtain ⟨es, clock, hb, _⟩ := h
 exact (Array.getElem?_eq_some_iff.1 hb).1
theorem MM.stay {l : List Nd} {w w' : World} {b : Nat} {out : List Nd} (h : MM l w b out) (hb : w'.heap[b]? = w.heap[b]?) : MM l w' b out := by
 obtain ⟨es, clock, hh, r⟩ := h
 exact ⟨es, clock, hb.trans hh, r⟩
theorem MM.pre {l : List Nd} {w : World} {b : Nat} {out out' : List Nd} (h : MM l w b out) (hp : out <+: out') : MM l w b out' := by
 obtain ⟨es, clock, hh, h1, h2⟩ := h
 refine ⟨es, clock, hh, fun e he => ?_, h2⟩
 obtain ⟨n, k, a1, a2, a3, a4⟩ := h1 e he
 exact ⟨n, k, a1, a2, a3, num_pre hp a4⟩
end Go.Proofs.YtmfncapgikobkaaGreat

namespace Go.Proofs.YtmfncapgikobkaaGreat
set_option maxRecDepth 100000
set_option linter.unusedVariables false
set_option linter.unusedSimpArgs false
open Go.RowKit Nds
theorem box_cell {w : World} {g : Nat} {u : Value} {t : TypeId} (h : w.heap[g]? = some (.cells #[u] t)) : w.cell? ⟨g, 0, none⟩ = some u := by
 rw [cell_of_row w g _ _ _ _ h]
 rfl
theorem box_lt {w : World} {g : Nat} {o : Obj} (h : w.heap[g]? = some o) : g < w.heap.size := (Array.getElem?_eq_some_iff.1 h).1
end Go.Proofs.YtmfncapgikobkaaGreat
