/-
  cells: the builder's node above the cells: the recursion.
  cells: a row of cells that is made, and filled one by one.
  cells.nodes: the nodes of the quad of cells that a root has.
  cells.Of: the quad of cells, or why there is none.
  cells.Of: the walk.
  cells: a row of numbers that is made, and filled one by one.
  cells: a node's cells, kid by kid; plain.
-/
import Derived.Test.YtajgfmfopkggdaaGreatGClNd
import Derived.Test.YtajgfmfopkggdaaGreatGClWi
import Derived.Test.YtajgfmfopkggdaaGreatGNdsE
import Derived.Test.YtajgfmfopkggdaaGreatGNcRS

set_option linter.unusedVariables false
set_option linter.unusedSimpArgs false
set_option maxRecDepth 100000
namespace Go.Proofs.YtajgfmfopkggdaaGreat
open Go.RowKit Nds Num
structure NJ (w0 w : World) (base bb bm : Nat) (v : Value) (out : List Nd) (m : Nat) (l : List Cv) (j : Nat) (v1 : Value) (A : Option Addr) (c r : Nat) (W : World) : Prop where
 hr : (remQ l m j).length = r
 cs : Cs w0 A c (remQ l m j)
 bl : W.heap[w.heap.size]? = some (.cells #[.slice A r c] 22)
 bv : W.heap[w.heap.size + 1]? = some (.cells #[.int .i64 ((m : Int) + 1)] 3)
 bx : NdBox W (w.heap.size + 2) (mix ⟨(m : Int) + 1, 0, 0, 0, 0⟩ (topN (fQ m l) out ((m : Int) + 1)) j)
 bd : Bd W base bb bm v1 (outK (fQ m l) out j)
 vb : ∀ k, v1.ownBlock = some k → v.ownBlock = some k ∨ w.heap.size + 3 ≤ k
 ky : Ky (BdP bb bm v) w W
 sz : w.heap.size + 3 ≤ W.heap.size
theorem NJ.next {w0 w : World} {base bb bm : Nat} {v : Value} {out : List Nd} {m : Nat} {l : List Cv} {j : Nat} {v1 : Value} {A : Option Addr} {c r : Nat} {W W1 : World} (h : NJ w0 w base bb bm v out m l j v1 A c r W) (k : Below W.heap.size W W1) : NJ w0 w base bb bm v out m l j v1 A c r W1 :=
 have hs := h.sz
 ⟨h.hr, h.cs, (k.block _ (by omega)).trans h.bl, (k.block _ (by omega)).trans h.bv, h.bx.stay (k.block _ (by omega)), h.bd.next k, h.vb, h.ky.below k, Nat.le_trans h.sz k.size⟩
theorem NJ.below {w0 w : World} {base bb bm : Nat} {v : Value} {out : List Nd} {m : Nat} {l : List Cv} {j : Nat} {v1 : Value} {A : Option Addr} {c r : Nat} {W : World} (h : NJ w0 w base bb bm v out m l j v1 A c r W) (hb : Below w0.heap.size w0 w) (h1 : w0.heap.size ≤ bb ∧ w0.heap.size ≤ bm ∧ w0.heap.size ≤ base) (ho : ∀ k, v.ownBlock = some k → base ≤ k) : Below w0.heap.size w0 W :=
 hb.trans (h.ky.to hb.size (fun k hk => by
  rcases hk with rfl | rfl | hk
  ·
   exact h1.1
  ·
   exact h1.2.1
  ·
   exact Nat.le_trans h1.2.2 (ho k hk)))
end Go.Proofs.YtajgfmfopkggdaaGreat

namespace Go.Proofs.YtajgfmfopkggdaaGreat
open Go.RowKit Nds
theorem cvcs_set : ∀ (L : List Cv) (i : Nat) (v : Cv), i < L.length →
  cvcs (L.set i v) = (((((cvcs L).set (i * 5) (.bool v.sx)).set (i * 5 + 1) (.slice v.ax v.xs.length v.cx)).set (i * 5 + 2) (.bool v.sy)).set (i * 5 + 3) (.slice v.ay v.ys.length v.cy)).set (i * 5 + 4) (.int .u8 v.st)
 | [], i, v, h => by simp at h
 | x :: L, 0, v, h => rfl
 | x :: L, i + 1, v, h => by
  have ih := cvcs_set L i v (by simpa using h)
  show encC x ++ cvcs (L.set i v) = _
  rw [ih]
  show _ = (((((encC x ++ cvcs L).set ((i + 1) * 5) _).set ((i + 1) * 5 + 1) _).set ((i + 1) * 5 + 2) _).set ((i + 1) * 5 + 3) _).set ((i + 1) * 5 + 4) _
  have e : ∀ (l : List Value) (k : Nat) (u : Value), (encC x ++ l).set ((i + 1) * 5 + k) u = encC x ++ l.set (i * 5 + k) u := fun l k u => by
   rw [List.set_append_right _ _ (by show 5 ≤ _; omega)]
   congr 2
   show (i + 1) * 5 + k - 5 = _
   omega
  have e0 : ∀ (l : List Value) (u : Value), (encC x ++ l).set ((i + 1) * 5) u = encC x ++ l.set (i * 5) u := fun l u => e l 0 u
  rw [e0, e, e, e, e]
theorem OwnC.put {w : World} {base g n cap : Nat} {L : List Cv} (h : OwnC w base (.slice (some ⟨g, 0, none⟩) n cap) L) (hn : L.length = n) {i : Nat} (hi : i < n) (v : Cv) :
  OwnC (((((w.setCell ⟨g, i * 5, none⟩ (.bool v.sx)).setCell ⟨g, i * 5 + 1, none⟩ (.slice v.ax v.xs.length v.cx)).setCell ⟨g, i * 5 + 2, none⟩ (.bool v.sy)).setCell ⟨g, i * 5 + 3, none⟩ (.slice v.ay v.ys.length v.cy)).setCell ⟨g, i * 5 + 4, none⟩ (.int .u8 v.st)) base (.slice (some ⟨g, 0, none⟩) n cap) (L.set i v) := by
 unfold OwnC at h ⊢
 rw [List.length_set, hn, cvcs_set L i v (by omega)]
 rw [hn] at h
 exact (((((h.stored (i * 5) (.bool v.sx)).1.stored (i * 5 + 1) (.slice v.ax v.xs.length v.cx)).1.stored (i * 5 + 2) (.bool v.sy)).1.stored (i * 5 + 3) (.slice v.ay v.ys.length v.cy)).1.stored (i * 5 + 4) (.int .u8 v.st)).1
theorem gb_two {a b c : World} {g : Nat} (h : a.grownBy b (some g)) (k : b.grownBy c (some g)) : a.grownBy c (some g) :=
 ⟨k.os.trans h.os, k.tape.trans h.tape, k.output.trans h.output, Nat.le_trans h.size k.size, fun i hi hne => (k.block i (Nat.lt_of_lt_of_le hi h.size) hne).trans (h.block i hi hne)⟩
theorem setC_one (w : World) (g o : Nat) (a : Value) : w.grownBy (w.setCell ⟨g, o, none⟩ a) (some g) :=
 ⟨rfl, rfl, rfl, by simp [World.setCell], fun i _ hi => Below.heap_setCell _ _ _ _ (fun e => hi (by rw [e]))⟩
theorem setC_grown (w : World) (g o : Nat) (a b c d e : Value) : w.grownBy (((((w.setCell ⟨g, o, none⟩ a).setCell ⟨g, o + 1, none⟩ b).setCell ⟨g, o + 2, none⟩ c).setCell ⟨g, o + 3, none⟩ d).setCell ⟨g, o + 4, none⟩ e) (some g) :=
 gb_two (gb_two (gb_two (gb_two (setC_one w g o a) (setC_one _ g (o + 1) b)) (setC_one _ g (o + 2) c)) (setC_one _ g (o + 3) d)) (setC_one _ g (o + 4) e)
theorem madeC (n : Nat) : (madeCells (cvv cv0).cells (n * 5)).toList = cvcs (List.replicate n cv0) := by
 refine List.ext_getElem? fun t => ?_
 by_cases ht : t < n * 5
 ·
  obtain ⟨i, j, rfl, hj⟩ : ∃ i j, t = i * 5 + j ∧ j < 5 := ⟨t / 5, t % 5, by omega, by omega⟩
  rw [cvcs_at _ i j (by rw [List.length_replicate]; omega) hj]
  have e1 : cat (List.replicate n cv0) i = cv0 := by
   unfold cat
   rw [List.getElem?_replicate, if_pos (by omega)]
   rfl
  rw [e1]
  simp only [madeCells, Array.getElem?_toList]
  match j, hj with
  | 0, _ =>
   simp only [Nat.add_zero] at ht ⊢
   simp [ht, cv0, encC, Value.cells, show i * 5 % 5 = 0 by omega]
  | 1, _ => simp [ht, cv0, encC, Value.cells, show (i * 5 + 1) % 5 = 1 by omega]
  | 2, _ => simp [ht, cv0, encC, Value.cells, show (i * 5 + 2) % 5 = 2 by omega]
  | 3, _ => simp [ht, cv0, encC, Value.cells, show (i * 5 + 3) % 5 = 3 by omega]
  | 4, _ => simp [ht, cv0, encC, Value.cells, show (i * 5 + 4) % 5 = 4 by omega]
 ·
  rw [List.getElem?_eq_none (by rw [Array.length_toList, size_madeCells]; omega), List.getElem?_eq_none (by rw [cvcs_len, List.length_replicate]; omega)]
theorem OwnC.made {w : World} {base g n : Nat} (h : w.ownsRow base 100 5 (.slice (some ⟨g, 0, none⟩) n n) n (madeCells (cvv cv0).cells (n * 5)).toList) : OwnC w base (.slice (some ⟨g, 0, none⟩) n n) (List.replicate n cv0) := by
 unfold OwnC
 rw [List.length_replicate, ← madeC]
 exact h
theorem OwnC.no_limb {w : World} {base g n : Nat} {L : List Cv} (h : OwnC w base (.slice (some ⟨g, 0, none⟩) n n) L) (hn : L.length = n) : ∀ o v, w.cell? ⟨g, o, none⟩ = some v → ∀ k, v ≠ .int .u32 k := by
 intro o v hv k e
 subst e
 unfold OwnC at h
 rw [hn] at h
 rcases h.2 with ⟨h', _⟩ | ⟨g', cap, cur, h', hb, hg, hnc, hcm, hcs, htake⟩
 ·
  cases h'
 ·
  cases h'
  rw [cell_of_row w g o cur _ (0, 0) hg] at hv
  have ho : o < n * 5 := by
   have := (Array.getElem?_eq_some_iff.1 hv).1
   omega
  have h2 : (cvcs L)[o]? = some (.int .u32 k) := by
   rw [← htake, List.getElem?_take, if_pos ho, Array.getElem?_toList]
   exact hv
  have h3 : (Value.int .u32 k) ∈ cvcs L := List.mem_of_getElem? h2
  obtain ⟨x, _, hx⟩ := List.mem_flatMap.1 h3
  simp [encC] at hx
end Go.Proofs.YtajgfmfopkggdaaGreat

namespace Go.Proofs.YtajgfmfopkggdaaGreat
open Go.RowKit Nds Num Go.Shelf
def CvN (v : Cv) : Prop := v.sx = false ∧ v.sy = false
structure InC (W : World) (gi : Nat) (h : Int) (v u : Cv) : Prop where
 us : CvU W u
 rt : CvR u
 nn : CvN u
 off : Off gi u
 xx : ival u.sx u.xs = ival v.sx v.xs + h
 yy : ival u.sy u.ys = ival v.sy v.ys + h
 stt : u.st = v.st
theorem len_in {s : Bool} {xs : List Nat} {n : Nat} {z : Int} (hc : CanonI s xs) (hv : ival s xs = z) (h0 : 0 ≤ z) (h1 : z < p2 n) (hn : n ≤ 1330) : xs.length ≤ 50 := by
 refine len_ival hc hv 50 ?_
 obtain ⟨M, hM⟩ : ∃ M, M = 50 := ⟨_, rfl⟩
 have h2 : (p2 n).natAbs < 4294967296 ^ M := by
  unfold p2
  rw [show ((2 : Int) ^ n).natAbs = 2 ^ n by rw [Int.natAbs_pow]; rfl, show (4294967296 : Nat) = 2 ^ 32 by decide, ← Nat.pow_mul]
  exact Nat.pow_lt_pow_right (by decide) (by omega)
 rw [← hM]
 omega
theorem pos_in {s : Bool} {xs : List Nat} (hc : CanonI s xs) (h0 : 0 ≤ ival s xs) : s = false := by
 cases s with
 | false => rfl
 | true =>
  have h1 := hc.2 rfl
  have h2 : val xs ≠ 0 := fun e => h1 (canon_zero hc.1 e)
  unfold ival at h0
  simp only [if_true] at h0
  omega
structure NR (w : World) (gh gi bc : Nat) (s : Bool) (A : Option Addr) (c : Nat) (xs : List Nat) (hh : Int) (n : Nat) (L : List Cv) (x : Cv) (W : World) : Prop where
 b : Below w.heap.size w W
 h : HX W gh s A c xs hh
 own : OwnC W w.heap.size (.slice (some ⟨gi, 0, none⟩) n n) L
 lt : bc < W.heap.size
 cv : CvAt W bc 0 x
 cu : CvU W x
theorem NR.next {w : World} {gh gi bc : Nat} {s : Bool} {A : Option Addr} {c : Nat} {xs : List Nat} {hh : Int} {n : Nat} {L : List Cv} {x : Cv} {W W1 : World} (k : NR w gh gi bc s A c xs hh n L x W) (q : Below W.heap.size W W1) : NR w gh gi bc s A c xs hh n L x W1 :=
 ⟨k.b.trans (q.mono k.b.size), k.h.next q, k.own.kept (gbN q) (own_dec (fun k hk e => by cases e)), Nat.lt_of_lt_of_le k.lt q.size, k.cv.below (q.block _ k.lt), k.cu.below q⟩
theorem NR.row {w : World} {gh gi bc : Nat} {s : Bool} {A : Option Addr} {c : Nat} {xs : List Nat} {hh : Int} {n : Nat} {L : List Cv} {x : Cv} {W : World} (k : NR w gh gi bc s A c xs hh n L x W) (hL : L.length = n) {i : Nat} (hi : i < n) : CvAt W gi (i * 5) (cat L i) ∧ ∀ o, W.frozen? ⟨gi, o, none⟩ = false := by
 obtain ⟨A', c', e1, _, _, _, e5⟩ := k.own.shape
 cases e1
 obtain ⟨g, e, _, _, h1, h2⟩ := e5 _ rfl
 cases e
 exact ⟨h1 i (by omega), h2⟩
theorem cat_set_same {L : List Cv} {i : Nat} (h : i < L.length) (u : Cv) : cat (L.set i u) i = u := by
 unfold cat
 rw [List.getElem?_set, if_pos rfl, if_pos h]
 rfl
theorem cat_set_ne {L : List Cv} {i j : Nat} (h : i ≠ j) (u : Cv) : cat (L.set i u) j = cat L j := by
 unfold cat
 rw [List.getElem?_set, if_neg h]
theorem InC.kept {W W1 : World} {gi : Nat} {h : Int} {v u : Cv} (k : InC W gi h v u) (hk : ∀ q, q < W.heap.size → q ≠ gi → W1.heap[q]? = W.heap[q]?) (hs : W.heap.size ≤ W1.heap.size) : InC W1 gi h v u :=
 ⟨cvU_kept k.us hk hs k.off, k.rt, k.nn, k.off, k.xx, k.yy, k.stt⟩
theorem NR.put {w : World} {gh gi bc : Nat} {s : Bool} {A : Option Addr} {c : Nat} {xs : List Nat} {m n : Nat} {L l : List Cv} {x : Cv} {W : World} (k : NR w gh gi bc s A c xs (p2 m) n L x W) (hL : L.length = n) {i : Nat} (hi : i < n) (hx : x = cat l i)
  (hall : ∀ j, j < i → InC W gi (p2 m) (cat l j) (cat L j)) (hgh : gh ≠ gi) (hgw : w.heap.size ≤ gi) (hm : m + 1 ≤ 1330) (hin : inL x.cl (m + 1) = true)
  {s7 s8 : Bool} {A7 A8 : Option Addr} {c7 c8 : Nat} {r7 r8 : List Nat} (u7 : Us W A7 c7 r7) (k7 : CanonI s7 r7) (v7 : ival s7 r7 = ival x.sx x.xs + p2 m) (u8 : Us W A8 c8 r8) (k8 : CanonI s8 r8) (v8 : ival s8 r8 = ival x.sy x.ys + p2 m) :
  ∃ W' L', W' = (((((W.setCell ⟨gi, i * 5, none⟩ (.bool s7)).setCell ⟨gi, i * 5 + 1, none⟩ (.slice A7 r7.length c7)).setCell ⟨gi, i * 5 + 2, none⟩ (.bool s8)).setCell ⟨gi, i * 5 + 3, none⟩ (.slice A8 r8.length c8)).setCell ⟨gi, i * 5 + 4, none⟩ (.int .u8 x.st)) ∧ L'.length = n ∧
   HX W' gh s A c xs (p2 m) ∧ OwnC W' w.heap.size (.slice (some ⟨gi, 0, none⟩) n n) L' ∧ (∀ j, j < i + 1 → InC W' gi (p2 m) (cat l j) (cat L' j)) ∧ Below w.heap.size w W' ∧ W.heap.size ≤ W'.heap.size := by
 obtain ⟨u, hu⟩ : ∃ u : Cv, u = ⟨s7, A7, c7, r7, s8, A8, c8, r8, x.st⟩ := ⟨_, rfl⟩
 have hg := setC_grown W gi (i * 5) (.bool s7) (.slice A7 r7.length c7) (.bool s8) (.slice A8 r8.length c8) (.int .u8 x.st)
 have hown := k.own.put hL hi u
 rw [hu] at hown
 obtain ⟨W', hW'⟩ : ∃ W', W' = (((((W.setCell ⟨gi, i * 5, none⟩ (.bool s7)).setCell ⟨gi, i * 5 + 1, none⟩ (.slice A7 r7.length c7)).setCell ⟨gi, i * 5 + 2, none⟩ (.bool s8)).setCell ⟨gi, i * 5 + 3, none⟩ (.slice A8 r8.length c8)).setCell ⟨gi, i * 5 + 4, none⟩ (.int .u8 x.st)) := ⟨_, rfl⟩
 rw [← hW'] at hg hown
 have hk : ∀ q, q < W.heap.size → q ≠ gi → W'.heap[q]? = W.heap[q]? := fun q h1 h2 => hg.block q h1 (fun e => h2 (by cases e; rfl))
 have hno := k.own.no_limb hL
 have ho : Off gi u := by rw [hu]; exact ⟨us_off u7 hno, us_off u8 hno⟩
 unfold inL inH at hin
 simp only [Bool.and_eq_true, decide_eq_true_eq, Nat.add_sub_cancel] at hin
 obtain ⟨⟨h1, h2⟩, ⟨h3, h4⟩⟩ := hin
 have h1' : ival x.sx x.xs < p2 m := h1
 have h2' : -p2 m ≤ ival x.sx x.xs := h2
 have h3' : ival x.sy x.ys < p2 m := h3
 have h4' : -p2 m ≤ ival x.sy x.ys := h4
 have hp := p2_succ m
 have l7 := len_in k7 v7 (by omega) (show _ < p2 (m + 1) by omega) hm
 have l8 := len_in k8 v8 (by omega) (show _ < p2 (m + 1) by omega) hm
 have hxo : ∀ a, 0 < xs.length → A = some a → a.block ≠ gi := fun a h0 ea => us_off k.h.us hno h0 a ea
 refine ⟨W', L.set i u, hW', by rw [List.length_set]; exact hL, ⟨(hk gh k.h.lt hgh).trans k.h.box, us_kept k.h.us hk hg.size (fun h0 a ea => hxo a h0 ea), k.h.cn, k.h.v, k.h.off⟩, by rw [hu]; exact hown, fun j hj => ?_, k.b.grown hg k.b.size (fun q e => by cases e; exact hgw), hg.size⟩
 by_cases hji : i = j
 ·
  subst hji
  rw [cat_set_same (by omega), ← hx]
  refine ⟨?_, ?_, ?_, ho, ?_, ?_, ?_⟩
  ·
   rw [hu] at ho ⊢
   exact ⟨us_kept u7 hk hg.size ho.1, us_kept u8 hk hg.size ho.2, k.cu.2.2⟩
  ·
   rw [hu]; exact ⟨k7, k8, by show r7.length ≤ 60000; omega, by show r8.length ≤ 60000; omega⟩
  ·
   rw [hu]; exact ⟨pos_in k7 (by rw [v7]; omega), pos_in k8 (by rw [v8]; omega)⟩
  ·
   rw [hu]; exact v7
  ·
   rw [hu]; exact v8
  ·
   rw [hu]
 ·
  rw [cat_set_ne hji]
  exact (hall j (by omega)).kept hk hg.size
theorem OwnC.row {w : World} {base g n cap : Nat} {L : List Cv} (h : OwnC w base (.slice (some ⟨g, 0, none⟩) n cap) L) : L.length = n ∧ (∀ i, i < n → CvAt w g (i * 5) (cat L i)) ∧ (∀ o, w.frozen? ⟨g, o, none⟩ = false) ∧ g < w.heap.size := by
 obtain ⟨A', c', e1, _, _, _, e5⟩ := h.shape
 simp only [Value.slice.injEq] at e1
 obtain ⟨rfl, rfl, rfl⟩ := e1
 obtain ⟨g', e, _, h3, h1, h2⟩ := e5 _ rfl
 cases e
 exact ⟨rfl, h1, h2, h3⟩
end Go.Proofs.YtajgfmfopkggdaaGreat

namespace Go.Proofs.YtajgfmfopkggdaaGreat
open Go.RowKit Nds Num
def okC (v : Cv) : Bool := rightI v.sx v.xs && rightI v.sy v.ys
theorem upL_in {c : Cl} : ∀ {lv : Nat}, lv ≤ 1330 → upL c lv ≤ 1329 → inL c (upL c lv) = true := fun {lv} => by
 suffices h : ∀ d lv, lv + d = 1330 → upL c lv ≤ 1329 → inL c (upL c lv) = true from fun hl h1 => h (1330 - lv) lv (by omega) h1
 intro d
 induction d with
 | zero => intro lv he h1; rw [upL_top (by omega)] at h1; omega
 | succ d ih =>
  intro lv he h1
  cases hq : inL c lv with
  | true => rw [upL_stop hq]; exact hq
  | false =>
   rw [upL_next (by omega) hq] at h1 ⊢
   exact ih (lv + 1) (by omega) h1
theorem upL_ge (c : Cl) : ∀ (lv : Nat), lv ≤ 1330 → lv ≤ upL c lv ∧ upL c lv ≤ 1330 := fun lv hl => by
 suffices h : ∀ d lv, lv + d = 1330 → lv ≤ upL c lv ∧ upL c lv ≤ 1330 from h (1330 - lv) lv (by omega)
 intro d
 induction d with
 | zero => intro lv he; rw [upL_top (by omega)]; omega
 | succ d ih =>
  intro lv he
  cases hq : inL c lv with
  | true => rw [upL_stop hq]; omega
  | false =>
   rw [upL_next (by omega) hq]
   have := ih (lv + 1) (by omega)
   omega
theorem inL_up {c : Cl} {a b : Nat} (h : inL c a = true) (hab : a ≤ b) : inL c b = true := by
 unfold inL inH at h ⊢
 simp only [Bool.and_eq_true, decide_eq_true_eq] at h ⊢
 have := p2_mono (show a - 1 ≤ b - 1 by omega)
 omega
theorem least_in : ∀ (l : List Cl) (lv : Nat), lv ≤ 1330 → lv ≤ l.foldl (fun lv c => upL c lv) lv ∧ l.foldl (fun lv c => upL c lv) lv ≤ 1330 ∧ (l.foldl (fun lv c => upL c lv) lv ≤ 1329 → ∀ c ∈ l, inL c (l.foldl (fun lv c => upL c lv) lv) = true)
 | [], lv, h => ⟨Nat.le_refl _, h, fun _ c hc => by cases hc⟩
 | c :: l, lv, h => by
  obtain ⟨g1, g2⟩ := upL_ge c lv h
  obtain ⟨h1, h2, h3⟩ := least_in l (upL c lv) g2
  refine ⟨Nat.le_trans g1 h1, h2, fun h9 d hd => ?_⟩
  rcases List.mem_cons.1 hd with rfl | hd
  ·
   exact inL_up (upL_in h (Nat.le_trans h1 h9)) h1
  ·
   exact h3 h9 d hd
theorem of_in {l out : List Cv} (h : out.map Cv.cl = lastF (l.map Cv.cl)) {lv : Nat} (hl : lv = leastF (lastF (l.map Cv.cl))) (h9 : lv ≤ 1329) {x : Cv} (hx : x ∈ out) : inL x.cl lv = true := by
 have hm : x.cl ∈ lastF (l.map Cv.cl) := by rw [← h]; exact List.mem_map_of_mem hx
 have := (least_in (lastF (l.map Cv.cl)) 1 (by omega)).2.2
 unfold leastF at hl
 rw [← hl] at this
 exact this h9 _ hm
end Go.Proofs.YtajgfmfopkggdaaGreat

namespace Go.Proofs.YtajgfmfopkggdaaGreat
open Go.RowKit Nds Num
theorem right_canonC {s : Bool} {xs : List Nat} (h : rightI s xs = true) : CanonI s xs := by
 unfold rightI at h
 rw [Bool.and_eq_true] at h
 refine ⟨?_, fun hs e => ?_⟩
 ·
  have h1 := h.1
  simp [rightB] at h1
  unfold Canon
  rw [List.getLast?_eq_getElem?]
  intro e
  rcases h1 with rfl | h1
  ·
   simp at e
  ·
   rw [e] at h1
   exact h1 rfl
 ·
  subst hs e
  simp at h
end Go.Proofs.YtajgfmfopkggdaaGreat

namespace Go.Proofs.YtajgfmfopkggdaaGreat
open Go.RowKit Nds
structure Gv where
 s : Bool
 a : Option Addr
 c : Nat
 xs : List Nat
def gv0 : Gv := ⟨false, none, 0, []⟩
def gat (l : List Gv) (i : Nat) : Gv := l[i]?.getD gv0
def encG (v : Gv) : List Value := [.bool v.s, .slice v.a v.xs.length v.c]
abbrev gvv (v : Gv) : Value := .agg #[.bool v.s, .slice v.a v.xs.length v.c]
theorem Tryz.infoG : (Tryz.prog.info? 31).map (fun i => (i.zero, i.size, i.bytes)) = some (some (gvv gv0), 2, 32) := by kernel_rfl
def gvcs (l : List Gv) : List Value := l.flatMap encG
theorem gvcs_len (l : List Gv) : (gvcs l).length = l.length * 2 := by
 unfold gvcs
 induction l with
 | nil => rfl
 | cons x l ih =>
  rw [List.flatMap_cons, List.length_append, ih, List.length_cons]
  show 2 + _ = _
  omega
theorem gvcs_at : ∀ (l : List Gv) (i j : Nat), i < l.length → j < 2 → (gvcs l)[i * 2 + j]? = (encG (gat l i))[j]?
 | [], i, _, hi, _ => by simp at hi
 | x :: l, 0, j, _, hj => by
  show (encG x ++ gvcs l)[0 * 2 + j]? = _
  rw [List.getElem?_append_left (by show _ < 2; omega), show 0 * 2 + j = j by omega]
  rfl
 | x :: l, i + 1, j, hi, hj => by
  show (encG x ++ gvcs l)[(i + 1) * 2 + j]? = _
  rw [List.getElem?_append_right (by show 2 ≤ _; omega), show (i + 1) * 2 + j - (encG x).length = i * 2 + j by show _ - 2 = _; omega, gvcs_at l i j (by simpa using hi) hj]
  rfl
theorem gvcs_set : ∀ (L : List Gv) (i : Nat) (v : Gv), i < L.length → gvcs (L.set i v) = ((gvcs L).set (i * 2) (.bool v.s)).set (i * 2 + 1) (.slice v.a v.xs.length v.c)
 | [], i, v, h => by simp at h
 | x :: L, 0, v, h => rfl
 | x :: L, i + 1, v, h => by
  have ih := gvcs_set L i v (by simpa using h)
  show encG x ++ gvcs (L.set i v) = _
  rw [ih]
  show _ = ((encG x ++ gvcs L).set ((i + 1) * 2) _).set ((i + 1) * 2 + 1) _
  have e : ∀ (l : List Value) (k : Nat) (u : Value), (encG x ++ l).set ((i + 1) * 2 + k) u = encG x ++ l.set (i * 2 + k) u := fun l k u => by
   rw [List.set_append_right _ _ (by show 2 ≤ _; omega)]
   congr 2
   show (i + 1) * 2 + k - 2 = _
   omega
  have e0 : ∀ (l : List Value) (u : Value), (encG x ++ l).set ((i + 1) * 2) u = encG x ++ l.set (i * 2) u := fun l u => e l 0 u
  rw [e0, e]
def OwnG (w : World) (base g n : Nat) (l : List Gv) : Prop := l.length = n ∧ w.ownsRow base 31 2 (.slice (some ⟨g, 0, none⟩) n n) n (gvcs l)
theorem OwnG.row {w : World} {base g n : Nat} {l : List Gv} (h : OwnG w base g n l) : base ≤ g ∧ g < w.heap.size ∧ (∀ i, i < n → w.cell? ⟨g, i * 2, none⟩ = some (.bool (gat l i).s) ∧ w.cell? ⟨g, i * 2 + 1, none⟩ = some (.slice (gat l i).a (gat l i).xs.length (gat l i).c)) ∧ (∀ o, w.frozen? ⟨g, o, none⟩ = false) ∧ (∀ o v, w.cell? ⟨g, o, none⟩ = some v → ∀ k, v ≠ .int .u32 k) := by
 obtain ⟨hn, h⟩ := h
 rcases h.2 with ⟨h', _⟩ | ⟨g', cap, cur, h', hb, hg, hnc, hcm, hcs, htake⟩
 ·
  cases h'
 ·
  cases h'
  have hlt : g < w.heap.size := by
   rcases Nat.lt_or_ge g w.heap.size with hlt | hge
   ·
    exact hlt
   ·
    rw [Array.getElem?_eq_none hge] at hg; cases hg
  have hcell : ∀ i, i < n → ∀ j, j < 2 → w.cell? ⟨g, i * 2 + j, none⟩ = (encG (gat l i))[j]? := by
   intro i hi j hj
   have hlt : i * 2 + j < n * 2 := by omega
   rw [cell_of_row w g (i * 2 + j) cur _ (0, 0) hg, ← gvcs_at l i j (by omega) hj, ← htake, List.getElem?_take, if_pos hlt]
   simp
  refine ⟨hb, hlt, fun i hi => ⟨hcell i hi 0 (by omega), hcell i hi 1 (by omega)⟩, fun o => frozen_of_row _ _ _ _ _ hg, ?_⟩
  intro o v hv k e
  subst e
  rw [cell_of_row w g o cur _ (0, 0) hg] at hv
  have ho : o < n * 2 := by
   have := (Array.getElem?_eq_some_iff.1 hv).1
   omega
  have h2 : (gvcs l)[o]? = some (.int .u32 k) := by
   rw [← htake, List.getElem?_take, if_pos ho, Array.getElem?_toList]
   exact hv
  have h3 : (Value.int .u32 k) ∈ gvcs l := List.mem_of_getElem? h2
  obtain ⟨x, _, hx⟩ := List.mem_flatMap.1 h3
  simp [encG] at hx
theorem OwnG.kept {w w' : World} {base g n : Nat} {l : List Gv} (h : OwnG w base g n l) {row : Option Nat} (hg : w.grownBy w' row) (hv : row ≠ some g) : OwnG w' base g n l :=
 ⟨h.1, World.ownsRow.kept h.2 hg (.inr fun e => hv e.symm)⟩
theorem OwnG.next {w w' : World} {base g n : Nat} {l : List Gv} (h : OwnG w base g n l) (hb : Below w.heap.size w w') : OwnG w' base g n l := h.kept (gbN hb) (by simp)
theorem OwnG.put {w : World} {base g n : Nat} {L : List Gv} (h : OwnG w base g n L) {i : Nat} (hi : i < n) (v : Gv) :
  OwnG ((w.setCell ⟨g, i * 2, none⟩ (.bool v.s)).setCell ⟨g, i * 2 + 1, none⟩ (.slice v.a v.xs.length v.c)) base g n (L.set i v) := by
 refine ⟨by rw [List.length_set]; exact h.1, ?_⟩
 rw [gvcs_set L i v (by rw [h.1]; exact hi)]
 exact ((h.2.stored (i * 2) (.bool v.s)).1.stored (i * 2 + 1) (.slice v.a v.xs.length v.c)).1
theorem madeG (n : Nat) : (madeCells (gvv gv0).cells (n * 2)).toList = gvcs (List.replicate n gv0) := by
 refine List.ext_getElem? fun t => ?_
 by_cases ht : t < n * 2
 ·
  obtain ⟨i, j, rfl, hj⟩ : ∃ i j, t = i * 2 + j ∧ j < 2 := ⟨t / 2, t % 2, by omega, by omega⟩
  rw [gvcs_at _ i j (by rw [List.length_replicate]; omega) hj]
  have e1 : gat (List.replicate n gv0) i = gv0 := by
   unfold gat
   rw [List.getElem?_replicate, if_pos (by omega)]
   rfl
  rw [e1]
  simp only [madeCells, Array.getElem?_toList]
  match j, hj with
  | 0, _ =>
   simp only [Nat.add_zero] at ht ⊢
   simp [ht, gv0, encG, Value.cells, show i * 2 % 2 = 0 by omega]
  | 1, _ => simp [ht, gv0, encG, Value.cells, show (i * 2 + 1) % 2 = 1 by omega]
 ·
  rw [List.getElem?_eq_none (by rw [Array.length_toList, size_madeCells]; omega), List.getElem?_eq_none (by rw [gvcs_len, List.length_replicate]; omega)]
theorem OwnG.made {w : World} {base g n : Nat} (h : w.ownsRow base 31 2 (.slice (some ⟨g, 0, none⟩) n n) n (madeCells (gvv gv0).cells (n * 2)).toList) : OwnG w base g n (List.replicate n gv0) :=
 ⟨List.length_replicate, by rw [← madeG]; exact h⟩
theorem gat_set_same {L : List Gv} {i : Nat} (h : i < L.length) (u : Gv) : gat (L.set i u) i = u := by
 unfold gat
 rw [List.getElem?_set, if_pos rfl, if_pos h]
 rfl
theorem gat_set_ne {L : List Gv} {i j : Nat} (h : i ≠ j) (u : Gv) : gat (L.set i u) j = gat L j := by
 unfold gat
 rw [List.getElem?_set, if_neg h]
structure GIn (W : World) (v : Gv) (m : Int) : Prop where
 us : Us W v.a v.c v.xs
 cn : CanonI v.s v.xs
 v : ival v.s v.xs = m
theorem GIn.next {W W1 : World} {v : Gv} {m : Int} (h : GIn W v m) (k : Below W.heap.size W W1) : GIn W1 v m := ⟨h.us.below k, h.cn, h.v⟩
theorem GIn.over {W W1 : World} {v : Gv} {m : Int} {g : Nat} (h : GIn W v m) (hg : ∀ o v, W.cell? ⟨g, o, none⟩ = some v → ∀ k, v ≠ .int .u32 k) (hk : W.grownBy W1 (some g)) : GIn W1 v m :=
 ⟨us_kept h.us (fun q h1 h2 => hk.block q h1 (fun e => h2 (by cases e; rfl))) hk.size (us_off h.us hg), h.cn, h.v⟩
theorem GIn.zero (W : World) : GIn W gv0 0 := ⟨Us.nil W, ⟨Num.canon_nil, fun h => by cases h⟩, rfl⟩
end Go.Proofs.YtajgfmfopkggdaaGreat

namespace Go.Proofs.YtajgfmfopkggdaaGreat
open Nds Num
def listK (l : List Nd) (x : Nd) (m : Nat) (X Y : Int) : Nat → List Cl
 | 0 => []
 | j + 1 => listK l x m X Y j ++ listT (kidT (dens l) x.lv (x.kid j)) (X + offI (p2 m) j) (Y + offJ (p2 m) j)
end Go.Proofs.YtajgfmfopkggdaaGreat
