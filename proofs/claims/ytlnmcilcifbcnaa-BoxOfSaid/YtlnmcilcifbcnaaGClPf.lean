/-
  cells: a tree's cells as a list, how many they are; quads with the same cells are one; plain.
  cells: the tree of a list of cells, by quarters; plain.
  cells: the builder's node: quarter by quarter.
  cells: a row of cells that is made, and filled one by one.
  cells.nodes: the nodes of the quad of cells that a root has.
  cells.Of: the quad of cells, or why there is none.
-/
import Derived.Test.YtlnmcilcifbcnaaGClM
import Derived.Test.YtlnmcilcifbcnaaGClOw
import Derived.Test.YtlnmcilcifbcnaaGNcRO
import Derived.Test.YtlnmcilcifbcnaaGNcAd
import Derived.Deep.QuietTactic
import Derived.BigQuiet
import Derived.Deep.RegionHeld3
import Derived.Test.YtlnmcilcifbcnaaGClNu
import Derived.Test.YtlnmcilcifbcnaaGNdsW

set_option linter.unusedVariables false
set_option linter.unusedSimpArgs false
set_option maxRecDepth 100000
namespace Go.Proofs.Ytlnmcilcifbcnaa
open Nds
def listT : Tr → Int → Int → List Cl
 | .e, _, _ => []
 | .s k, X, Y => [⟨X, Y, k⟩]
 | .n v a b c d, X, Y => listT a X Y ++ listT b (X + p2 (v.toNat - 1)) Y ++ listT c X (Y + p2 (v.toNat - 1)) ++ listT d (X + p2 (v.toNat - 1)) (Y + p2 (v.toNat - 1))
def countT : Tr → Nat
 | .e => 0
 | .s _ => 1
 | .n _ a b c d => countT a + countT b + countT c + countT d
theorem listT_len : ∀ (t : Tr) (X Y : Int), (listT t X Y).length = countT t
 | .e, _, _ => rfl
 | .s k, _, _ => rfl
 | .n v a b c d, X, Y => by
  show (listT a X Y ++ listT b (X + p2 (v.toNat - 1)) Y ++ listT c X (Y + p2 (v.toNat - 1)) ++ listT d (X + p2 (v.toNat - 1)) (Y + p2 (v.toNat - 1))).length = countT a + countT b + countT c + countT d
  rw [List.length_append, List.length_append, List.length_append, listT_len a, listT_len b, listT_len c, listT_len d]
theorem lk_app : ∀ (l m : List Cl) (x y : Int), lk (l ++ m) x y = if (∃ c ∈ l, c.x = x ∧ c.y = y) then lk l x y else lk m x y
 | [], m, x, y => by
  rw [if_neg (by rintro ⟨c, hc, _⟩; cases hc)]
  rfl
 | a :: l, m, x, y => by
  show (if a.x = x ∧ a.y = y then a.s else lk (l ++ m) x y) = if _ then (if a.x = x ∧ a.y = y then a.s else lk l x y) else _
  by_cases ha : a.x = x ∧ a.y = y
  ·
   rw [if_pos ha, if_pos ⟨a, by simp, ha⟩, if_pos ha]
  ·
   rw [if_neg ha, lk_app l m x y]
   by_cases hl : ∃ c ∈ l, c.x = x ∧ c.y = y
   ·
    obtain ⟨c, hc, h⟩ := hl
    rw [if_pos ⟨c, hc, h⟩, if_pos ⟨c, by simp [hc], h⟩, if_neg ha]
   ·
    rw [if_neg hl, if_neg]
    rintro ⟨c, hc, h⟩
    rcases List.mem_cons.1 hc with rfl | hc
    ·
     exact ha h
    ·
     exact hl ⟨c, hc, h⟩
theorem lk_app_sq {X Y h : Int} {l m : List Cl} (hl : ∀ c ∈ l, sqB X Y h c = true) (hm : ∀ c ∈ m, sqB X Y h c = false) (x y : Int) : lk (l ++ m) x y = lk l x y + lk m x y := by
 rw [lk_app]
 by_cases he : ∃ c ∈ l, c.x = x ∧ c.y = y
 ·
  rw [if_pos he]
  obtain ⟨c, hc, h1⟩ := he
  have h2 := sq_iff.1 (hl c hc)
  rw [lk_none (l := m) (fun d hd e => by
   have h3 := hm d hd
   have h4 : sqB X Y h d = true := sq_iff.2 (by rw [e.1, e.2, ← h1.1, ← h1.2]; exact h2)
   rw [h4] at h3
   cases h3)]
  omega
 ·
  rw [if_neg he, lk_none (l := l) (fun d hd e => he ⟨d, hd, e⟩)]
  omega
theorem listT_spec : ∀ (t : Tr) (n : Nat) (X Y : Int), wfT (n : Int) t → Fine (listT t X Y) ∧ (∀ c ∈ listT t X Y, sqB X Y (p2 n) c = true) ∧ ∀ x y, lk (listT t X Y) x y = cellC t (x - X) (y - Y)
 | .e, _, _, _, _ => ⟨⟨fun c hc => absurd hc (List.not_mem_nil), List.Pairwise.nil⟩, fun c hc => absurd hc (List.not_mem_nil), fun x y => rfl⟩
 | .s k, n, X, Y, hw => by
  have hn : (n : Int) = 0 := hw.1
  have : n = 0 := by omega
  subst this
  refine ⟨⟨fun c hc => ?_, List.pairwise_singleton _ _⟩, fun c hc => ?_, fun x y => ?_⟩
  ·
   rw [List.mem_singleton.1 hc]
   exact ⟨hw.2.1, hw.2.2⟩
  ·
   rw [List.mem_singleton.1 hc, sq_iff, p2_zero]
   show X ≤ X ∧ X < X + 1 ∧ Y ≤ Y ∧ Y < Y + 1
   omega
  ·
   show (if X = x ∧ Y = y then k else 0) = if x - X = 0 ∧ y - Y = 0 then k else 0
   by_cases h : X = x ∧ Y = y
   ·
    rw [if_pos h, if_pos (by omega)]
   ·
    rw [if_neg h, if_neg (by omega)]
 | .n v a b c d, n, X, Y, hw => by
  obtain ⟨m, rfl, rfl, ha, hb, hc, hd, _⟩ := wf_n hw
  have hp := p2_pos m
  have ep := p2_succ m
  obtain ⟨fa, sa, ka⟩ := listT_spec a m X Y ha
  obtain ⟨fb, sb, kb⟩ := listT_spec b m (X + p2 m) Y hb
  obtain ⟨fc, sc, kc⟩ := listT_spec c m X (Y + p2 m) hc
  obtain ⟨fd, sd, kd⟩ := listT_spec d m (X + p2 m) (Y + p2 m) hd
  have e : ((m : Int) + 1).toNat - 1 = m := by omega
  have el : listT (.n ((m : Int) + 1) a b c d) X Y = listT a X Y ++ listT b (X + p2 m) Y ++ listT c X (Y + p2 m) ++ listT d (X + p2 m) (Y + p2 m) := by
   show listT a X Y ++ listT b (X + p2 (((m : Int) + 1).toNat - 1)) Y ++ listT c X (Y + p2 (((m : Int) + 1).toNat - 1)) ++ listT d (X + p2 (((m : Int) + 1).toNat - 1)) (Y + p2 (((m : Int) + 1).toNat - 1)) = _
   rw [e]
  rw [el]
  have apart : ∀ {l1 l2 : List Cl} {X1 Y1 X2 Y2 : Int}, (∀ c ∈ l1, sqB X1 Y1 (p2 m) c = true) → (∀ c ∈ l2, sqB X2 Y2 (p2 m) c = true) → (X1 + p2 m ≤ X2 ∨ X2 + p2 m ≤ X1 ∨ Y1 + p2 m ≤ Y2 ∨ Y2 + p2 m ≤ Y1) → ∀ c ∈ l1, ∀ d ∈ l2, ¬ (c.x = d.x ∧ c.y = d.y) := fun h1 h2 h3 c hc d hd e => by
   have a1 := sq_iff.1 (h1 c hc)
   have a2 := sq_iff.1 (h2 d hd)
   omega
  have outOf : ∀ {l2 : List Cl} {X1 Y1 X2 Y2 : Int}, (∀ c ∈ l2, sqB X2 Y2 (p2 m) c = true) → (X1 + p2 m ≤ X2 ∨ X2 + p2 m ≤ X1 ∨ Y1 + p2 m ≤ Y2 ∨ Y2 + p2 m ≤ Y1) → ∀ c ∈ l2, sqB X1 Y1 (p2 m) c = false := fun h2 h3 c hc => by
   have a2 := sq_iff.1 (h2 c hc)
   cases hq : sqB _ _ (p2 m) c
   ·
    rfl
   ·
    have := sq_iff.1 hq
    omega
  refine ⟨⟨fun q hq => ?_, ?_⟩, fun q hq => ?_, fun x y => ?_⟩
  ·
   rcases List.mem_append.1 hq with hq | hq
   ·
    rcases List.mem_append.1 hq with hq | hq
    ·
     rcases List.mem_append.1 hq with hq | hq
     ·
      exact fa.1 q hq
     ·
      exact fb.1 q hq
    ·
     exact fc.1 q hq
   ·
    exact fd.1 q hq
  ·
   rw [List.pairwise_append, List.pairwise_append, List.pairwise_append]
   refine ⟨⟨⟨fa.2, fb.2, apart sa sb (by omega)⟩, fc.2, fun q hq => ?_⟩, fd.2, fun q hq => ?_⟩
   ·
    rcases List.mem_append.1 hq with hq | hq
    ·
     exact apart sa sc (by omega) q hq
    ·
     exact apart sb sc (by omega) q hq
   ·
    rcases List.mem_append.1 hq with hq | hq
    ·
     rcases List.mem_append.1 hq with hq | hq
     ·
      exact apart sa sd (by omega) q hq
     ·
      exact apart sb sd (by omega) q hq
    ·
     exact apart sc sd (by omega) q hq
  ·
   rw [sq_iff, p2_succ]
   rcases List.mem_append.1 hq with hq | hq
   ·
    rcases List.mem_append.1 hq with hq | hq
    ·
     rcases List.mem_append.1 hq with hq | hq
     ·
      have := sq_iff.1 (sa q hq); omega
     ·
      have := sq_iff.1 (sb q hq); omega
    ·
     have := sq_iff.1 (sc q hq); omega
   ·
    have := sq_iff.1 (sd q hq); omega
  ·
   rw [List.append_assoc, List.append_assoc, lk_app_sq sa (fun q hq => by
    rcases List.mem_append.1 hq with hq | hq
    ·
     exact outOf sb (by omega) q hq
    ·
     rcases List.mem_append.1 hq with hq | hq
     ·
      exact outOf sc (by omega) q hq
     ·
      exact outOf sd (by omega) q hq), lk_app_sq sb (fun q hq => by
    rcases List.mem_append.1 hq with hq | hq
    ·
     exact outOf sc (by omega) q hq
    ·
     exact outOf sd (by omega) q hq), lk_app_sq sc (fun q hq => outOf sd (by omega) q hq), ka, kb, kc, kd, cell_q ha hb hc hd]
   rw [show x - (X + p2 m) = x - X - p2 m by omega, show y - (Y + p2 m) = y - Y - p2 m by omega]
   omega
theorem ofL_cells {l m : List Nd} (hl : looseB l = true) (hm : looseB m = true) {n k : Nat} (hn : n ≤ l.length) (hk : k ≤ m.length) (h : ∀ x y, cellM (den l n) x y = cellM (den m k) x y) : OfL l n = OfL m k := by
 have key : ∀ {l : List Nd} {n : Nat}, looseB l = true → n ≤ l.length → ∃ q : Nat, wfT (q : Int) (den l n) := fun {l n} hl hn => by
  cases n with
  | zero => rw [den_zero]; exact ⟨0, trivial⟩
  | succ p =>
   have hv := fit_lv (loose_fit hl (i := p) (by omega))
   refine ⟨(at_ l p).lv.toNat, ?_⟩
   have hw := wf_den hl p (by omega)
   rwa [show (((at_ l p).lv.toNat : Nat) : Int) = (at_ l p).lv by omega]
 have nat : ∀ {t : Tr} {v : Int}, wfT v t → (∀ k, t ≠ .s k) → ∃ q : Nat, wfT (q : Int) t := fun {t v} hw hs => by
  cases t with
  | e => exact ⟨0, trivial⟩
  | s k => exact absurd rfl (hs k)
  | n u a b c d =>
   have h1 := hw.1
   have h2 := hw.2.1
   exact ⟨v.toNat, by rwa [show ((v.toNat : Nat) : Int) = v by omega]⟩
 obtain ⟨q1, w1⟩ := key hl hn
 obtain ⟨q2, w2⟩ := key hm hk
 obtain ⟨u1, a1, b1, c1⟩ := ofL_tree hl hn
 obtain ⟨u2, a2, b2, c2⟩ := ofL_tree hm hk
 obtain ⟨p1, d1⟩ := nat a1 b1
 obtain ⟨p2', d2⟩ := nat a2 b2
 have e : shrT (den l n) = shrT (den m k) := cells_one d1 d2 b1 b2 c1 c2 fun x y => by rw [shr_cells w1, shr_cells w2]; exact h x y
 unfold OfL
 rw [e]
end Go.Proofs.Ytlnmcilcifbcnaa

namespace Go.Proofs.Ytlnmcilcifbcnaa
open Nds Num
def Cv.cn (v : Cv) : Cl := ⟨(val v.xs : Nat), (val v.ys : Nat), v.st⟩
end Go.Proofs.Ytlnmcilcifbcnaa

namespace Go.Proofs.Ytlnmcilcifbcnaa
open Go.RowKit Nds Num
theorem Cs.take {w : World} {A : Option Addr} {c : Nat} {l : List Cv} (h : Cs w A c l) (k : Nat) : Cs w A c (l.take k) := by
 refine ⟨fun v hv => h.1 v (List.mem_of_mem_take hv), by rw [List.length_take]; have := h.2.1; omega, h.2.2.1, fun hn => ?_⟩
 rw [List.length_take] at hn
 obtain ⟨b, off, e, hb, hc⟩ := h.2.2.2 (by omega)
 refine ⟨b, off, e, hb, fun i hi => ?_⟩
 rw [List.length_take] at hi
 have e1 : cat (l.take k) i = cat l i := by
  unfold cat
  rw [List.getElem?_take, if_pos (by omega)]
 rw [e1]
 exact hc i (by omega)
theorem Cs.drop {w : World} {b off c : Nat} {l : List Cv} (h : Cs w (some ⟨b, off, none⟩) c l) (k : Nat) (hk : k ≤ l.length) (A' : Option Addr) (hA : k < l.length → A' = some ⟨b, off + k * 5, none⟩) : Cs w A' (c - k) (l.drop k) := by
 have h1 := h.2.1
 refine ⟨fun v hv => h.1 v (List.mem_of_mem_drop hv), by rw [List.length_drop]; omega, by have := h.2.2.1; omega, fun hn => ?_⟩
 rw [List.length_drop] at hn
 obtain ⟨b2, off2, e, hb, hc⟩ := h.2.2.2 (by omega)
 cases e
 refine ⟨b, off + k * 5, hA (by omega), hb, fun i hi => ?_⟩
 rw [List.length_drop] at hi
 have e1 : cat (l.drop k) i = cat l (k + i) := by
  unfold cat
  rw [List.getElem?_drop]
 rw [e1, show off + k * 5 + i * 5 = off + (k + i) * 5 by omega]
 exact hc (k + i) (by omega)
end Go.Proofs.Ytlnmcilcifbcnaa

namespace Go.Proofs.Ytlnmcilcifbcnaa
open Go.RowKit Nds
theorem cvcs_set : ∀ (L : List Cv) (i : Nat) (v : Cv), i < L.length →
  cvcs (L.set i v) = (((((cvcs L).set (i * 5) (.bool v.sx)).set (i * 5 + 1) (.slice v.ax v.xs.length v.cx)).set (i * 5 + 2) (.bool v.sy)).set (i * 5 + 3) (.slice v.ay v.ys.length v.cy)).set (i * 5 + 4) (.int .u8 v.st)
 | [], i, v, h => by simp at h
 | x :: L, 0, v, h => rfl
 | x :: L, i + 1, v, h => by
  have ih := cvcs_set L i v (by simpa using h)
  show encC x ++ cvcs (L.set i v) = _
  rw [ih]
  show _ = (((((encC x ++ cvcs L).set ((i + 1) * 5) _).set ((i + 1) * 5 + 1) _).set ((i + 1) * 5 + 2) _).set ((i + 1) * 5 + 3) _).set ((i + 1) * 5 + 4) _
  have e : ∀ (l : List Value) (k : Nat) (u : Value), (encC x ++ l).set ((i + 1) * 5 + k) u = encC x ++ l.set (i * 5 + k) u := fun l k u => by
   rw [List.set_append_right _ _ (by show 5 ≤ _; omega)]
   congr 2
   show (i + 1) * 5 + k - 5 = _
   omega
  have e0 : ∀ (l : List Value) (u : Value), (encC x ++ l).set ((i + 1) * 5) u = encC x ++ l.set (i * 5) u := fun l u => e l 0 u
  rw [e0, e, e, e, e]
theorem OwnC.put {w : World} {base g n cap : Nat} {L : List Cv} (h : OwnC w base (.slice (some ⟨g, 0, none⟩) n cap) L) (hn : L.length = n) {i : Nat} (hi : i < n) (v : Cv) :
  OwnC (((((w.setCell ⟨g, i * 5, none⟩ (.bool v.sx)).setCell ⟨g, i * 5 + 1, none⟩ (.slice v.ax v.xs.length v.cx)).setCell ⟨g, i * 5 + 2, none⟩ (.bool v.sy)).setCell ⟨g, i * 5 + 3, none⟩ (.slice v.ay v.ys.length v.cy)).setCell ⟨g, i * 5 + 4, none⟩ (.int .u8 v.st)) base (.slice (some ⟨g, 0, none⟩) n cap) (L.set i v) := by
 unfold OwnC at h ⊢
 rw [List.length_set, hn, cvcs_set L i v (by omega)]
 rw [hn] at h
 exact (((((h.stored (i * 5) (.bool v.sx)).1.stored (i * 5 + 1) (.slice v.ax v.xs.length v.cx)).1.stored (i * 5 + 2) (.bool v.sy)).1.stored (i * 5 + 3) (.slice v.ay v.ys.length v.cy)).1.stored (i * 5 + 4) (.int .u8 v.st)).1
theorem gb_two {a b c : World} {g : Nat} (h : a.grownBy b (some g)) (k : b.grownBy c (some g)) : a.grownBy c (some g) :=
 ⟨k.os.trans h.os, k.tape.trans h.tape, k.output.trans h.output, Nat.le_trans h.size k.size, fun i hi hne => (k.block i (Nat.lt_of_lt_of_le hi h.size) hne).trans (h.block i hi hne)⟩
theorem setC_one (w : World) (g o : Nat) (a : Value) : w.grownBy (w.setCell ⟨g, o, none⟩ a) (some g) :=
 ⟨rfl, rfl, rfl, by simp [World.setCell], fun i _ hi => Below.heap_setCell _ _ _ _ (fun e => hi (by rw [e]))⟩
theorem setC_grown (w : World) (g o : Nat) (a b c d e : Value) : w.grownBy (((((w.setCell ⟨g, o, none⟩ a).setCell ⟨g, o + 1, none⟩ b).setCell ⟨g, o + 2, none⟩ c).setCell ⟨g, o + 3, none⟩ d).setCell ⟨g, o + 4, none⟩ e) (some g) :=
 gb_two (gb_two (gb_two (gb_two (setC_one w g o a) (setC_one _ g (o + 1) b)) (setC_one _ g (o + 2) c)) (setC_one _ g (o + 3) d)) (setC_one _ g (o + 4) e)
theorem madeC (n : Nat) : (madeCells (cvv cv0).cells (n * 5)).toList = cvcs (List.replicate n cv0) := by
 refine List.ext_getElem? fun t => ?_
 by_cases ht : t < n * 5
 ·
  obtain ⟨i, j, rfl, hj⟩ : ∃ i j, t = i * 5 + j ∧ j < 5 := ⟨t / 5, t % 5, by omega, by omega⟩
  rw [cvcs_at _ i j (by rw [List.length_replicate]; omega) hj]
  have e1 : cat (List.replicate n cv0) i = cv0 := by
   unfold cat
   rw [List.getElem?_replicate, if_pos (by omega)]
   rfl
  rw [e1]
  simp only [madeCells, Array.getElem?_toList]
  match j, hj with
  | 0, _ =>
   simp only [Nat.add_zero] at ht ⊢
   simp [ht, cv0, encC, Value.cells, show i * 5 % 5 = 0 by omega]
  | 1, _ => simp [ht, cv0, encC, Value.cells, show (i * 5 + 1) % 5 = 1 by omega]
  | 2, _ => simp [ht, cv0, encC, Value.cells, show (i * 5 + 2) % 5 = 2 by omega]
  | 3, _ => simp [ht, cv0, encC, Value.cells, show (i * 5 + 3) % 5 = 3 by omega]
  | 4, _ => simp [ht, cv0, encC, Value.cells, show (i * 5 + 4) % 5 = 4 by omega]
 ·
  rw [List.getElem?_eq_none (by rw [Array.length_toList, size_madeCells]; omega), List.getElem?_eq_none (by rw [cvcs_len, List.length_replicate]; omega)]
theorem OwnC.made {w : World} {base g n : Nat} (h : w.ownsRow base 27 5 (.slice (some ⟨g, 0, none⟩) n n) n (madeCells (cvv cv0).cells (n * 5)).toList) : OwnC w base (.slice (some ⟨g, 0, none⟩) n n) (List.replicate n cv0) := by
 unfold OwnC
 rw [List.length_replicate, ← madeC]
 exact h
theorem OwnC.no_limb {w : World} {base g n : Nat} {L : List Cv} (h : OwnC w base (.slice (some ⟨g, 0, none⟩) n n) L) (hn : L.length = n) : ∀ o v, w.cell? ⟨g, o, none⟩ = some v → ∀ k, v ≠ .int .u32 k := by
 intro o v hv k e
 subst e
 unfold OwnC at h
 rw [hn] at h
 rcases h.2 with ⟨h', _⟩ | ⟨g', cap, cur, h', hb, hg, hnc, hcm, hcs, htake⟩
 ·
  cases h'
 ·
  cases h'
  rw [cell_of_row w g o cur _ (0, 0) hg] at hv
  have ho : o < n * 5 := by
   have := (Array.getElem?_eq_some_iff.1 hv).1
   omega
  have h2 : (cvcs L)[o]? = some (.int .u32 k) := by
   rw [← htake, List.getElem?_take, if_pos ho, Array.getElem?_toList]
   exact hv
  have h3 : (Value.int .u32 k) ∈ cvcs L := List.mem_of_getElem? h2
  obtain ⟨x, _, hx⟩ := List.mem_flatMap.1 h3
  simp [encC] at hx
end Go.Proofs.Ytlnmcilcifbcnaa

namespace Go.Proofs.Ytlnmcilcifbcnaa
open Go.RowKit Nds Num Go.Shelf
def CvN (v : Cv) : Prop := v.sx = false ∧ v.sy = false
structure InC (W : World) (gi : Nat) (h : Int) (v u : Cv) : Prop where
 us : CvU W u
 rt : CvR u
 nn : CvN u
 off : Off gi u
 xx : ival u.sx u.xs = ival v.sx v.xs + h
 yy : ival u.sy u.ys = ival v.sy v.ys + h
 stt : u.st = v.st
theorem len_in {s : Bool} {xs : List Nat} {n : Nat} {z : Int} (hc : CanonI s xs) (hv : ival s xs = z) (h0 : 0 ≤ z) (h1 : z < p2 n) (hn : n ≤ 1330) : xs.length ≤ 50 := by
 refine len_ival hc hv 50 ?_
 obtain ⟨M, hM⟩ : ∃ M, M = 50 := ⟨_, rfl⟩
 have h2 : (p2 n).natAbs < 4294967296 ^ M := by
  unfold p2
  rw [show ((2 : Int) ^ n).natAbs = 2 ^ n by rw [Int.natAbs_pow]; rfl, show (4294967296 : Nat) = 2 ^ 32 by decide, ← Nat.pow_mul]
  exact Nat.pow_lt_pow_right (by decide) (by omega)
 rw [← hM]
 omega
theorem pos_in {s : Bool} {xs : List Nat} (hc : CanonI s xs) (h0 : 0 ≤ ival s xs) : s = false := by
 cases s with
 | false => rfl
 | true =>
  have h1 := hc.2 rfl
  have h2 : val xs ≠ 0 := fun e => h1 (canon_zero hc.1 e)
  unfold ival at h0
  simp only [if_true] at h0
  omega
structure NR (w : World) (gh gi bc : Nat) (s : Bool) (A : Option Addr) (c : Nat) (xs : List Nat) (hh : Int) (n : Nat) (L : List Cv) (x : Cv) (W : World) : Prop where
 b : Below w.heap.size w W
 h : HX W gh s A c xs hh
 own : OwnC W w.heap.size (.slice (some ⟨gi, 0, none⟩) n n) L
 lt : bc < W.heap.size
 cv : CvAt W bc 0 x
 cu : CvU W x
theorem NR.next {w : World} {gh gi bc : Nat} {s : Bool} {A : Option Addr} {c : Nat} {xs : List Nat} {hh : Int} {n : Nat} {L : List Cv} {x : Cv} {W W1 : World} (k : NR w gh gi bc s A c xs hh n L x W) (q : Below W.heap.size W W1) : NR w gh gi bc s A c xs hh n L x W1 :=
 ⟨k.b.trans (q.mono k.b.size), k.h.next q, k.own.kept (gbN q) (own_dec (fun k hk e => by cases e)), Nat.lt_of_lt_of_le k.lt q.size, k.cv.below (q.block _ k.lt), k.cu.below q⟩
theorem NR.row {w : World} {gh gi bc : Nat} {s : Bool} {A : Option Addr} {c : Nat} {xs : List Nat} {hh : Int} {n : Nat} {L : List Cv} {x : Cv} {W : World} (k : NR w gh gi bc s A c xs hh n L x W) (hL : L.length = n) {i : Nat} (hi : i < n) : CvAt W gi (i * 5) (cat L i) ∧ ∀ o, W.frozen? ⟨gi, o, none⟩ = false := by
 obtain ⟨A', c', e1, _, _, _, e5⟩ := k.own.shape
 cases e1
 obtain ⟨g, e, _, _, h1, h2⟩ := e5 _ rfl
 cases e
 exact ⟨h1 i (by omega), h2⟩
theorem cat_set_same {L : List Cv} {i : Nat} (h : i < L.length) (u : Cv) : cat (L.set i u) i = u := by
 unfold cat
 rw [List.getElem?_set, if_pos rfl, if_pos h]
 rfl
theorem cat_set_ne {L : List Cv} {i j : Nat} (h : i ≠ j) (u : Cv) : cat (L.set i u) j = cat L j := by
 unfold cat
 rw [List.getElem?_set, if_neg h]
theorem InC.kept {W W1 : World} {gi : Nat} {h : Int} {v u : Cv} (k : InC W gi h v u) (hk : ∀ q, q < W.heap.size → q ≠ gi → W1.heap[q]? = W.heap[q]?) (hs : W.heap.size ≤ W1.heap.size) : InC W1 gi h v u :=
 ⟨cvU_kept k.us hk hs k.off, k.rt, k.nn, k.off, k.xx, k.yy, k.stt⟩
theorem NR.put {w : World} {gh gi bc : Nat} {s : Bool} {A : Option Addr} {c : Nat} {xs : List Nat} {m n : Nat} {L l : List Cv} {x : Cv} {W : World} (k : NR w gh gi bc s A c xs (p2 m) n L x W) (hL : L.length = n) {i : Nat} (hi : i < n) (hx : x = cat l i)
  (hall : ∀ j, j < i → InC W gi (p2 m) (cat l j) (cat L j)) (hgh : gh ≠ gi) (hgw : w.heap.size ≤ gi) (hm : m + 1 ≤ 1330) (hin : inL x.cl (m + 1) = true)
  {s7 s8 : Bool} {A7 A8 : Option Addr} {c7 c8 : Nat} {r7 r8 : List Nat} (u7 : Us W A7 c7 r7) (k7 : CanonI s7 r7) (v7 : ival s7 r7 = ival x.sx x.xs + p2 m) (u8 : Us W A8 c8 r8) (k8 : CanonI s8 r8) (v8 : ival s8 r8 = ival x.sy x.ys + p2 m) :
  ∃ W' L', W' = (((((W.setCell ⟨gi, i * 5, none⟩ (.bool s7)).setCell ⟨gi, i * 5 + 1, none⟩ (.slice A7 r7.length c7)).setCell ⟨gi, i * 5 + 2, none⟩ (.bool s8)).setCell ⟨gi, i * 5 + 3, none⟩ (.slice A8 r8.length c8)).setCell ⟨gi, i * 5 + 4, none⟩ (.int .u8 x.st)) ∧ L'.length = n ∧
   HX W' gh s A c xs (p2 m) ∧ OwnC W' w.heap.size (.slice (some ⟨gi, 0, none⟩) n n) L' ∧ (∀ j, j < i + 1 → InC W' gi (p2 m) (cat l j) (cat L' j)) ∧ Below w.heap.size w W' ∧ W.heap.size ≤ W'.heap.size := by
 obtain ⟨u, hu⟩ : ∃ u : Cv, u = ⟨s7, A7, c7, r7, s8, A8, c8, r8, x.st⟩ := ⟨_, rfl⟩
 have hg := setC_grown W gi (i * 5) (.bool s7) (.slice A7 r7.length c7) (.bool s8) (.slice A8 r8.length c8) (.int .u8 x.st)
 have hown := k.own.put hL hi u
 rw [hu] at hown
 obtain ⟨W', hW'⟩ : ∃ W', W' = (((((W.setCell ⟨gi, i * 5, none⟩ (.bool s7)).setCell ⟨gi, i * 5 + 1, none⟩ (.slice A7 r7.length c7)).setCell ⟨gi, i * 5 + 2, none⟩ (.bool s8)).setCell ⟨gi, i * 5 + 3, none⟩ (.slice A8 r8.length c8)).setCell ⟨gi, i * 5 + 4, none⟩ (.int .u8 x.st)) := ⟨_, rfl⟩
 rw [← hW'] at hg hown
 have hk : ∀ q, q < W.heap.size → q ≠ gi → W'.heap[q]? = W.heap[q]? := fun q h1 h2 => hg.block q h1 (fun e => h2 (by cases e; rfl))
 have hno := k.own.no_limb hL
 have ho : Off gi u := by rw [hu]; exact ⟨us_off u7 hno, us_off u8 hno⟩
 unfold inL inH at hin
 simp only [Bool.and_eq_true, decide_eq_true_eq, Nat.add_sub_cancel] at hin
 obtain ⟨⟨h1, h2⟩, ⟨h3, h4⟩⟩ := hin
 have h1' : ival x.sx x.xs < p2 m := h1
 have h2' : -p2 m ≤ ival x.sx x.xs := h2
 have h3' : ival x.sy x.ys < p2 m := h3
 have h4' : -p2 m ≤ ival x.sy x.ys := h4
 have hp := p2_succ m
 have l7 := len_in k7 v7 (by omega) (show _ < p2 (m + 1) by omega) hm
 have l8 := len_in k8 v8 (by omega) (show _ < p2 (m + 1) by omega) hm
 have hxo : ∀ a, 0 < xs.length → A = some a → a.block ≠ gi := fun a h0 ea => us_off k.h.us hno h0 a ea
 refine ⟨W', L.set i u, hW', by rw [List.length_set]; exact hL, ⟨(hk gh k.h.lt hgh).trans k.h.box, us_kept k.h.us hk hg.size (fun h0 a ea => hxo a h0 ea), k.h.cn, k.h.v, k.h.off⟩, by rw [hu]; exact hown, fun j hj => ?_, k.b.grown hg k.b.size (fun q e => by cases e; exact hgw), hg.size⟩
 by_cases hji : i = j
 ·
  subst hji
  rw [cat_set_same (by omega), ← hx]
  refine ⟨?_, ?_, ?_, ho, ?_, ?_, ?_⟩
  ·
   rw [hu] at ho ⊢
   exact ⟨us_kept u7 hk hg.size ho.1, us_kept u8 hk hg.size ho.2, k.cu.2.2⟩
  ·
   rw [hu]; exact ⟨k7, k8, by show r7.length ≤ 60000; omega, by show r8.length ≤ 60000; omega⟩
  ·
   rw [hu]; exact ⟨pos_in k7 (by rw [v7]; omega), pos_in k8 (by rw [v8]; omega)⟩
  ·
   rw [hu]; exact v7
  ·
   rw [hu]; exact v8
  ·
   rw [hu]
 ·
  rw [cat_set_ne hji]
  exact (hall j (by omega)).kept hk hg.size
theorem OwnC.row {w : World} {base g n cap : Nat} {L : List Cv} (h : OwnC w base (.slice (some ⟨g, 0, none⟩) n cap) L) : L.length = n ∧ (∀ i, i < n → CvAt w g (i * 5) (cat L i)) ∧ (∀ o, w.frozen? ⟨g, o, none⟩ = false) ∧ g < w.heap.size := by
 obtain ⟨A', c', e1, _, _, _, e5⟩ := h.shape
 simp only [Value.slice.injEq] at e1
 obtain ⟨rfl, rfl, rfl⟩ := e1
 obtain ⟨g', e, _, h3, h1, h2⟩ := e5 _ rfl
 cases e
 exact ⟨rfl, h1, h2, h3⟩
end Go.Proofs.Ytlnmcilcifbcnaa

namespace Go.Proofs.Ytlnmcilcifbcnaa
open Go.RowKit Nds Num
def okC (v : Cv) : Bool := rightI v.sx v.xs && rightI v.sy v.ys
theorem upL_in {c : Cl} : ∀ {lv : Nat}, lv ≤ 1330 → upL c lv ≤ 1329 → inL c (upL c lv) = true := fun {lv} => by
 suffices h : ∀ d lv, lv + d = 1330 → upL c lv ≤ 1329 → inL c (upL c lv) = true from fun hl h1 => h (1330 - lv) lv (by omega) h1
 intro d
 induction d with
 | zero => intro lv he h1; rw [upL_top (by omega)] at h1; omega
 | succ d ih =>
  intro lv he h1
  cases hq : inL c lv with
  | true => rw [upL_stop hq]; exact hq
  | false =>
   rw [upL_next (by omega) hq] at h1 ⊢
   exact ih (lv + 1) (by omega) h1
theorem upL_ge (c : Cl) : ∀ (lv : Nat), lv ≤ 1330 → lv ≤ upL c lv ∧ upL c lv ≤ 1330 := fun lv hl => by
 suffices h : ∀ d lv, lv + d = 1330 → lv ≤ upL c lv ∧ upL c lv ≤ 1330 from h (1330 - lv) lv (by omega)
 intro d
 induction d with
 | zero => intro lv he; rw [upL_top (by omega)]; omega
 | succ d ih =>
  intro lv he
  cases hq : inL c lv with
  | true => rw [upL_stop hq]; omega
  | false =>
   rw [upL_next (by omega) hq]
   have := ih (lv + 1) (by omega)
   omega
theorem inL_up {c : Cl} {a b : Nat} (h : inL c a = true) (hab : a ≤ b) : inL c b = true := by
 unfold inL inH at h ⊢
 simp only [Bool.and_eq_true, decide_eq_true_eq] at h ⊢
 have := p2_mono (show a - 1 ≤ b - 1 by omega)
 omega
theorem least_in : ∀ (l : List Cl) (lv : Nat), lv ≤ 1330 → lv ≤ l.foldl (fun lv c => upL c lv) lv ∧ l.foldl (fun lv c => upL c lv) lv ≤ 1330 ∧ (l.foldl (fun lv c => upL c lv) lv ≤ 1329 → ∀ c ∈ l, inL c (l.foldl (fun lv c => upL c lv) lv) = true)
 | [], lv, h => ⟨Nat.le_refl _, h, fun _ c hc => by cases hc⟩
 | c :: l, lv, h => by
  obtain ⟨g1, g2⟩ := upL_ge c lv h
  obtain ⟨h1, h2, h3⟩ := least_in l (upL c lv) g2
  refine ⟨Nat.le_trans g1 h1, h2, fun h9 d hd => ?_⟩
  rcases List.mem_cons.1 hd with rfl | hd
  ·
   exact inL_up (upL_in h (Nat.le_trans h1 h9)) h1
  ·
   exact h3 h9 d hd
theorem of_in {l out : List Cv} (h : out.map Cv.cl = lastF (l.map Cv.cl)) {lv : Nat} (hl : lv = leastF (lastF (l.map Cv.cl))) (h9 : lv ≤ 1329) {x : Cv} (hx : x ∈ out) : inL x.cl lv = true := by
 have hm : x.cl ∈ lastF (l.map Cv.cl) := by rw [← h]; exact List.mem_map_of_mem hx
 have := (least_in (lastF (l.map Cv.cl)) 1 (by omega)).2.2
 unfold leastF at hl
 rw [← hl] at this
 exact this h9 _ hm
end Go.Proofs.Ytlnmcilcifbcnaa
