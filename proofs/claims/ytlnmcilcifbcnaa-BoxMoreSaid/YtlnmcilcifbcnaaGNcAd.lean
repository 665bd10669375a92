/-
  cells: how many; a list turned around; plain.
  canon: slices.Clone, inner.
  canon: bared.
  canon: Shrink.
  canon: a map that knows each node's number in a list.
  canon: the maps of ordered.
  canon: ordered's add.
-/
import Derived.Test.YtlnmcilcifbcnaaGClM
import Derived.Test.YtlnmcilcifbcnaaGClRa
import Derived.Test.YtlnmcilcifbcnaaGNcRV
import Derived.Deep.DeepCutAuto

set_option linter.unusedVariables false
set_option linter.unusedSimpArgs false
set_option maxRecDepth 100000
namespace Go.Proofs.Ytlnmcilcifbcnaa
open Nds
theorem insC_len : ∀ (l : List Cl) (c : Cl), (insC l c).length ≤ l.length + 1
 | [], c => Nat.le_refl _
 | a :: l, c => by
  have h := insC_len l c
  unfold insC
  split
  ·
   rw [List.length_cons, List.length_cons]
   omega
  ·
   split
   ·
    rw [List.length_cons, List.length_cons]
    omega
   ·
    rw [List.length_cons, List.length_cons]
    omega
theorem insF_len : ∀ (l m : List Cl), (l.foldl insC m).length ≤ m.length + l.length
 | [], m => Nat.le_refl _
 | c :: l, m => by
  have h := insF_len l (insC m c)
  have h2 := insC_len m c
  rw [List.foldl_cons, List.length_cons]
  omega
theorem lastF_le (l : List Cl) : (lastF l).length ≤ l.length := by
 unfold lastF insAll
 have h := insF_len l []
 have h2 := List.length_filter_le (fun c : Cl => c.s != 0) (l.foldl insC [])
 simp only [List.length_nil, Nat.zero_add] at h
 exact Nat.le_trans h2 h
theorem count_pos : ∀ (t : Tr) (n : Nat), wfT (n : Int) t → t ≠ .e → 1 ≤ countT t
 | .e, _, _, h => absurd rfl h
 | .s k, _, _, _ => Nat.le_refl 1
 | .n v a b c d, n, h, _ => by
  have hv := h.1
  obtain ⟨m, rfl, hv2, ha, hb, hc, hd, _⟩ := wf_n h
  obtain ⟨i, hi, hne⟩ := wf_all h
  show 1 ≤ countT a + countT b + countT c + countT d
  match i, hi with
  | 0, _ => have := count_pos a m ha hne; omega
  | 1, _ => have := count_pos b m hb hne; omega
  | 2, _ => have := count_pos c m hc hne; omega
  | 3, _ => have := count_pos d m hd hne; omega
theorem add_le (out : List Nd) (x : Nd) : (add out x).1.length ≤ out.length + 1 := by
 unfold add
 split
 ·
  simp
 ·
  exact Nat.le_succ _
theorem enc_cnt : ∀ (t : Tr) (n : Nat) (out : List Nd), wfT (n : Int) t → (enc t out).1.length ≤ out.length + n * countT t
 | .e, n, out, _ => Nat.le_add_right _ _
 | .s k, n, out, _ => Nat.le_add_right _ _
 | .n v a b c d, n, out, h => by
  have hp : 1 ≤ countT a + countT b + countT c + countT d := count_pos (.n v a b c d) n h (by simp)
  obtain ⟨m, rfl, hv2, ha, hb, hc, hd, _⟩ := wf_n h
  have h0 := enc_cnt a m out ha
  have h1 := enc_cnt b m (outK (Tr.n v a b c d).q out 1) hb
  have h2 := enc_cnt c m (outK (Tr.n v a b c d).q out 2) hc
  have h3 := enc_cnt d m (outK (Tr.n v a b c d).q out 3) hd
  have h4 := add_le (outK (Tr.n v a b c d).q out 4) (topN (Tr.n v a b c d).q out v)
  have e1 : (outK (Tr.n v a b c d).q out 1).length = (enc a out).1.length := rfl
  have e2 : (outK (Tr.n v a b c d).q out 2).length = (enc b (outK (Tr.n v a b c d).q out 1)).1.length := rfl
  have e3 : (outK (Tr.n v a b c d).q out 3).length = (enc c (outK (Tr.n v a b c d).q out 2)).1.length := rfl
  have e4 : (outK (Tr.n v a b c d).q out 4).length = (enc d (outK (Tr.n v a b c d).q out 3)).1.length := rfl
  rw [enc_n]
  show (add (outK (Tr.n v a b c d).q out 4) (topN (Tr.n v a b c d).q out v)).1.length ≤ out.length + (m + 1) * (countT a + countT b + countT c + countT d)
  rw [Nat.add_mul, Nat.one_mul, Nat.mul_add, Nat.mul_add, Nat.mul_add]
  omega
theorem QuadOf.lenF {X : List Cl} {out : List Nd} (h : QuadOf (lastF X) out) : countT (Nds.den out out.length) = (lastF X).length ∧ out.length ≤ 1329 * (lastF X).length := by
 have h1 := cells_len h.good.1
 rw [h.cells (lastF_srt X) fun c hc => ((lastF_spec X).2.2 c hc).1] at h1
 refine ⟨h1.symm, ?_⟩
 obtain ⟨t, n, w1, w2, w3, rfl, w5⟩ := h
 by_cases he : t = .e
 ·
  subst he
  exact Nat.zero_le _
 ·
  obtain ⟨_, _, hd⟩ := enc_root w1 he w2
  rw [hd] at h1
  have h2 := enc_cnt t n [] w1
  rw [h1]
  have hn : n ≤ 1329 := by
   cases t with
   | e => exact absurd rfl he
   | s k => exact absurd rfl (w2 k)
   | n v a b c d =>
    have := w1.1
    have := w1.2.2.1
    omega
  have h3 := Nat.mul_le_mul_right (countT t) hn
  rw [List.length_nil, Nat.zero_add] at h2
  exact Nat.le_trans h2 h3
end Go.Proofs.Ytlnmcilcifbcnaa

namespace Go.Proofs.Ytlnmcilcifbcnaa
open Go.RowKit Nds
theorem NdBox.put {w : World} {g : Nat} {x : Nd} (h : NdBox w g x) (y : Nd) : NdBox (((((w.setCell ⟨g, 0, none⟩ (.int .i64 y.lv)).setCell ⟨g, 1, none⟩ (.int .i64 y.a)).setCell ⟨g, 2, none⟩ (.int .i64 y.b)).setCell ⟨g, 3, none⟩ (.int .i64 y.c)).setCell ⟨g, 4, none⟩ (.int .i64 y.d)) g y :=
 heap_setCell_same _ g 4 _ _ _ (heap_setCell_same _ g 3 _ _ _ (heap_setCell_same _ g 2 _ _ _ (heap_setCell_same _ g 1 _ _ _ (heap_setCell_same _ g 0 _ _ _ h))))
end Go.Proofs.Ytlnmcilcifbcnaa

namespace Go.Proofs.Ytlnmcilcifbcnaa
open Go.RowKit Nds
def setK (x : Nd) (k : Nat) (u : Int) : Nd := match k with | 0 => { x with a := u } | 1 => { x with b := u } | 2 => { x with c := u } | _ => { x with d := u }
theorem setK_wf {x : Nd} (h : x.wf) (k : Nat) {u : Int} (hu : in64 u) : (setK x k u).wf := by
 obtain ⟨h0, h1, h2, h3, h4⟩ := h
 match k with
 | 0 => exact ⟨h0, hu, h2, h3, h4⟩
 | 1 => exact ⟨h0, h1, hu, h3, h4⟩
 | 2 => exact ⟨h0, h1, h2, hu, h4⟩
 | _ + 3 => exact ⟨h0, h1, h2, h3, hu⟩
theorem ndcs_set : ∀ (l : List Nd) (i k : Nat) (u : Int), i < l.length → k < 4 → (ndcs l).set (i * 5 + 1 + k) (.int .i64 u) = ndcs (l.set i (setK (at_ l i) k u))
 | [], i, k, u, hi, _ => by simp at hi
 | x :: l, 0, k, u, _, hk => by
  show (ndc x ++ ndcs l).set (0 * 5 + 1 + k) _ = ndc (setK x k u) ++ ndcs l
  match k, hk with
  | 0, _ => rfl
  | 1, _ => rfl
  | 2, _ => rfl
  | 3, _ => rfl
 | x :: l, i + 1, k, u, hi, hk => by
  show (ndc x ++ ndcs l).set ((i + 1) * 5 + 1 + k) _ = ndc x ++ ndcs (l.set i (setK (at_ l i) k u))
  rw [List.set_append_right _ _ (by show 5 ≤ _; omega), ← ndcs_set l i k u (by simpa using hi) hk]
  congr 2
  show (i + 1) * 5 + 1 + k - 5 = _
  omega
theorem OwnN.setKid {w : World} {base g n cap : Nat} {l : List Nd} (h : OwnN w base (.slice (some ⟨g, 0, none⟩) n cap) l) (hn : l.length = n) {i k o : Nat} {u : Int} (hi : i < n) (hk : k < 4) (ho : o = i * 5 + 1 + k) (hu : in64 u) :
  OwnN (w.setCell ⟨g, o, none⟩ (.int .i64 u)) base (.slice (some ⟨g, 0, none⟩) n cap) (l.set i (setK (at_ l i) k u)) := by
 subst hn
 subst ho
 refine ⟨fun x hx => ?_, ?_⟩
 ·
  rcases List.mem_or_eq_of_mem_set hx with hx | rfl
  ·
   exact h.1 x hx
  ·
   exact setK_wf (h.1 _ (at_mem hi)) k hu
 ·
  have := (h.2.stored (i * 5 + 1 + k) (.int .i64 u)).1
  rw [ndcs_set l i k u hi hk] at this
  rw [List.length_set]
  exact this
end Go.Proofs.Ytlnmcilcifbcnaa

namespace Go.Proofs.Ytlnmcilcifbcnaa
open Go.RowKit Nds
structure Two (w : World) (base : Nat) (v u : Value) (L M : List Nd) (W : World) : Prop where
 one : OwnN W base v L
 two : OwnN W base u M
 apart : ∀ k, v.ownBlock = some k → u.ownBlock ≠ some k
 low : base ≤ W.heap.size
 below : Below base w W
theorem OwnN.mono {w : World} {base b : Nat} {v : Value} {l : List Nd} (h : OwnN w base v l) (hb : b ≤ base) : OwnN w b v l := by
 refine ⟨h.1, h.2.1, ?_⟩
 rcases h.2.2 with h2 | ⟨g, cap, cur, hv, hg, r⟩
 ·
  exact .inl h2
 ·
  exact .inr ⟨g, cap, cur, hv, Nat.le_trans hb hg, r⟩
theorem Two.alloc {w W : World} {base : Nat} {v u : Value} {L M : List Nd} (h : Two w base v u L M W) (o : Obj) : Two w base v u L M (W.alloc o) :=
 ⟨h.one.alloc o, h.two.alloc o, h.apart, by have := h.low; simp; omega, h.below.alloc h.low o⟩
theorem Two.step {w W W' : World} {base : Nat} {v u : Value} {L M : List Nd} (h : Two w base v u L M W) (b : Below W.heap.size W W') : Two w base v u L M W' :=
 ⟨h.one.stays b, h.two.stays b, h.apart, Nat.le_trans h.low b.size, h.below.trans (b.mono h.low)⟩
def SP (l : List Nd) (t : Tr) (G B : List Nd) (p : Nat) : Prop := SS l t B p ∧ Like G B ∧ Bar B ∧ looseB G = true
theorem SP.start {l : List Nd} (hl : looseB l = true) {p : Nat} (hp : p < l.length) (hne : den l (p + 1) ≠ .e) : SP l (shrT (den l (p + 1))) l (bareL l) p := by
 have hlk := like_bare hl
 have hs := SS.start (l := bareL l) (bare_dens hl).2 (p := p) (by rw [bare_len]; exact hp) (by rw [← like_den hlk]; exact hne)
 rw [← like_den hlk] at hs
 refine ⟨?_, hlk, bare_bar hl, hl⟩
 obtain ⟨h1, h2, h3, h4, h5⟩ := hs
 exact ⟨h1, h2, h3, h4, by rw [bare_len] at h5 ⊢; exact h5⟩
theorem SP.next {l G B : List Nd} {t : Tr} {p : Nat} (h : SP l t G B p) (hh : holT (den B (p + 1)) = true) : SP l t (G ++ [innN B (at_ B p)]) (B ++ [innN B (at_ B p)]) B.length := by
 obtain ⟨h1, h2, h3, h4⟩ := h
 obtain ⟨a1, a2, a3, a4, a5⟩ := id h1
 obtain ⟨hv, hne⟩ := hol_lv a1 a2 hh
 have hf := (inn_step a1 a2 hv hne).1
 exact ⟨h1.next hh, like_snoc h2 _, bar_snoc h3 a1 a2 hv hf, loose_snoc h4 (like_fit h2 hf)⟩
end Go.Proofs.Ytlnmcilcifbcnaa

namespace Go.Proofs.Ytlnmcilcifbcnaa
open Go.RowKit Nds Go.Maps
def KM (w : World) (b : Nat) (out : List Nd) : Prop :=
 ∃ es clock, w.heap[b]? = some (.map es clock) ∧ (∀ e ∈ es.toList, ∃ i, i < out.length ∧ e.key = ndv (at_ out i) ∧ e.val = .int .i64 ((i : Int) + 1)) ∧ ∀ i, i < out.length → ∃ e ∈ es.toList, e.key = ndv (at_ out i)
theorem KM.lt {w : World} {b : Nat} {out : List Nd} (h : KM w b out) : b < w.heap.size := by
 obtain ⟨es, clock, hb, _⟩ := h
 exact (Array.getElem?_eq_some_iff.1 hb).1
theorem KM.stay {w w' : World} {b : Nat} {out : List Nd} (h : KM w b out) (hb : w'.heap[b]? = w.heap[b]?) : KM w' b out := by
 obtain ⟨es, clock, hh, r⟩ := h
 exact ⟨es, clock, hb.trans hh, r⟩
theorem KM.made (w : World) : KM (w.alloc (.map #[] 0)) w.heap.size [] :=
 ⟨#[], 0, heap_alloc_new w _, by simp, fun i hi => absurd hi (Nat.not_lt_zero i)⟩
end Go.Proofs.Ytlnmcilcifbcnaa

namespace Go.Proofs.Ytlnmcilcifbcnaa
open Go.RowKit Nds Go.Maps
def MM (l : List Nd) (w : World) (b : Nat) (out : List Nd) : Prop :=
 ∃ es clock, w.heap[b]? = some (.map es clock) ∧ (∀ e ∈ es.toList, ∃ (n : Nat) (k : Int), n ≤ l.length ∧ e.key = .int .i64 (n : Int) ∧ e.val = .int .i64 k ∧ NumT out (den l n) k) ∧ ∃ e ∈ es.toList, e.key = .int .i64 0
theorem MM.lt {l : List Nd} {w : World} {b : Nat} {out : List Nd} (h : MM l w b out) : b < w.heap.size := by
 obtain ⟨es, clock, hb, _⟩ := h
 exact (Array.getElem?_eq_some_iff.1 hb).1
theorem MM.stay {l : List Nd} {w w' : World} {b : Nat} {out : List Nd} (h : MM l w b out) (hb : w'.heap[b]? = w.heap[b]?) : MM l w' b out := by
 obtain ⟨es, clock, hh, r⟩ := h
 exact ⟨es, clock, hb.trans hh, r⟩
theorem MM.pre {l : List Nd} {w : World} {b : Nat} {out out' : List Nd} (h : MM l w b out) (hp : out <+: out') : MM l w b out' := by
 obtain ⟨es, clock, hh, h1, h2⟩ := h
 refine ⟨es, clock, hh, fun e he => ?_, h2⟩
 obtain ⟨n, k, a1, a2, a3, a4⟩ := h1 e he
 exact ⟨n, k, a1, a2, a3, num_pre hp a4⟩
end Go.Proofs.Ytlnmcilcifbcnaa

namespace Go.Proofs.Ytlnmcilcifbcnaa
open Go.RowKit Nds
theorem box_cell {w : World} {g : Nat} {u : Value} {t : TypeId} (h : w.heap[g]? = some (.cells #[u] t)) : w.cell? ⟨g, 0, none⟩ = some u := by
 rw [cell_of_row w g _ _ _ _ h]
 rfl
theorem box_lt {w : World} {g : Nat} {o : Obj} (h : w.heap[g]? = some o) : g < w.heap.size := (Array.getElem?_eq_some_iff.1 h).1
def PS (bS bk bm : Nat) (v : Value) : Nat → Prop := fun k => k = bS ∨ k = bk ∨ k = bm ∨ v.ownBlock = some k
end Go.Proofs.Ytlnmcilcifbcnaa
