/-
  look: a cell got, a cell set, in a list of nodes; plain.
  look: a quad's list grown; the quad of a cell set; plain.
  look: Get.
  look: Get's walk down, step by step (plain).
  canon: wider, in general.
  canon: Grow, in general.
  look: the setter: its box, and its row of nodes.
  look: Most, the program's and the reference's.
  A drawn region walked state by state: orders that come to one state are walked once.
-/
import Derived.Test.YtajgfmfopkggdaaGreatGClG
import Derived.Test.YtajgfmfopkggdaaGreatGNcRS
import Derived.Test.YtajgfmfopkggdaaGreatGLkQ
import Derived.Test.YtajgfmfopkggdaaGreatGNdSame
import Derived.Test.YtajgfmfopkggdaaGreatGNcPB
import Derived.Test.YtajgfmfopkggdaaGreatGNcOr
import Derived.Laws.EntriesVeiled
import Derived.ArgAppend
import Derived.LoopN
import Derived.Deep.RegionHeld

set_option linter.unusedVariables false
set_option linter.unusedSimpArgs false
set_option maxRecDepth 100000
namespace Go.Proofs.YtajgfmfopkggdaaGreat
open Nds
theorem kid_wf {l : List Nd} (hl : looseB l = true) : ∀ {m : Nat} {k : Int}, kidB l ((m : Int) + 1) k = true → wfT (m : Int) (kidT (dens l) ((m : Int) + 1) k)
 | 0, k, hk => by
  have h : kidB l 1 k = true := hk
  rw [kidB_one, decide_eq_true_iff] at h
  exact wf_st h
 | m + 1, k, hk => by
  have hne : (((m + 1 : Nat)) : Int) + 1 ≠ 1 := by omega
  rcases kid_up hne hk with rfl | ⟨p, rfl, hp, hlv⟩
  ·
   rw [kidT_zero]
   trivial
  ·
   rw [kidT_den hne, show ((p : Int) + 1).toNat = p + 1 by omega]
   have h := wf_den hl p hp
   rwa [hlv, show (((m + 1 : Nat)) : Int) + 1 - 1 = ((m + 1 : Nat) : Int) by omega] at h
theorem cell_out {t : Tr} {n : Nat} {x y : Int} (hw : wfT (n : Int) t) (h : ¬ (0 ≤ x ∧ x < p2 n ∧ 0 ≤ y ∧ y < p2 n)) : cellC t x y = 0 :=
 Classical.byContradiction fun h2 => h (cell_in t n x y hw h2)
def qtI (h x y : Int) : Nat := (if x < h then 0 else 1) + (if y < h then 0 else 2)
def subI (h x : Int) : Int := if x < h then x else x - h
theorem qtI_lt (h x y : Int) : qtI h x y < 4 := by
 unfold qtI
 split <;> split <;> omega
def chK (x : Nd) (i : Nat) (u : Int) : Nd := match i with | 0 => { x with a := u } | 1 => { x with b := u } | 2 => { x with c := u } | _ => { x with d := u }
theorem chK_lv (x : Nd) (i : Nat) (u : Int) : (chK x i u).lv = x.lv := by
 unfold chK
 split <;> rfl
theorem chK_kid (x : Nd) {i : Nat} (hi : i < 4) (u : Int) {j : Nat} (hj : j < 4) : (chK x i u).kid j = if j = i then u else x.kid j := by
 match i, hi, j, hj with
 | 0, _, 0, _ => rfl
 | 0, _, 1, _ => rfl
 | 0, _, 2, _ => rfl
 | 0, _, 3, _ => rfl
 | 1, _, 0, _ => rfl
 | 1, _, 1, _ => rfl
 | 1, _, 2, _ => rfl
 | 1, _, 3, _ => rfl
 | 2, _, 0, _ => rfl
 | 2, _, 1, _ => rfl
 | 2, _, 2, _ => rfl
 | 2, _, 3, _ => rfl
 | 3, _, 0, _ => rfl
 | 3, _, 1, _ => rfl
 | 3, _, 2, _ => rfl
 | 3, _, 3, _ => rfl
def nodeF (m : Nat) (l : List Nd) (n : Int) : Nd := if n = 0 then ⟨(m : Int) + 1, 0, 0, 0, 0⟩ else at_ l (n - 1).toNat
theorem node_fit {l : List Nd} (hl : looseB l = true) {m : Nat} (hm : m ≤ 1328) {n : Int} (hn : kidB l (((m + 1 : Nat)) + 1 : Int) n = true) : fitB l (nodeF m l n) = true ∧ (nodeF m l n).lv = (m : Int) + 1 ∧ kidT (dens l) (((m + 1 : Nat)) + 1 : Int) n = norm (dens l) (nodeF m l n) := by
 have hne : (((m + 1 : Nat)) : Int) + 1 ≠ 1 := by omega
 unfold nodeF
 rcases kid_up hne hn with rfl | ⟨p, rfl, hp, hlv⟩
 ·
  rw [if_pos rfl, kidT_zero]
  have hk : ∀ v : Int, 1 ≤ v → kidB l v 0 = true := fun v hv => by
   by_cases h1 : v = 1
   ·
    rw [h1, kidB_one]; rfl
   ·
    exact kidB_zero _ _ h1
  refine ⟨?_, rfl, ?_⟩
  ·
   unfold fitB Nd.each
   rw [decide_eq_true (show 1 ≤ (m : Int) + 1 ∧ (m : Int) + 1 ≤ 1329 by omega)]
   show (true && (kidB l ((m : Int) + 1) 0 && kidB l ((m : Int) + 1) 0 && kidB l ((m : Int) + 1) 0 && kidB l ((m : Int) + 1) 0)) = true
   rw [hk _ (by omega)]
   rfl
  ·
   show _ = mk _ (kidT (dens l) ((m : Int) + 1) 0) (kidT (dens l) ((m : Int) + 1) 0) (kidT (dens l) ((m : Int) + 1) 0) (kidT (dens l) ((m : Int) + 1) 0)
   rw [kidT_zero]
   rfl
 ·
  rw [if_neg (by omega), show ((p : Int) + 1 - 1).toNat = p by omega]
  refine ⟨loose_fit hl hp, by omega, ?_⟩
  rw [kidT_den hne, show ((p : Int) + 1).toNat = p + 1 by omega, den_loose hl hp]
theorem norm_lv' {l : List Nd} {x : Nd} {m : Nat} (h : x.lv = (m : Int) + 1) : norm (dens l) x = mk ((m : Int) + 1) (kidT (dens l) ((m : Int) + 1) (x.kid 0)) (kidT (dens l) ((m : Int) + 1) (x.kid 1)) (kidT (dens l) ((m : Int) + 1) (x.kid 2)) (kidT (dens l) ((m : Int) + 1) (x.kid 3)) := by
 unfold norm
 rw [h]
 rfl
def getF : Nat → List Nd → Int → Int → Int → Int
 | 0, _, n, _, _ => n
 | m + 1, l, n, x, y => if n = 0 then 0 else getF m l ((nodeF m l n).kid (qtI (p2 m) x y)) (subI (p2 m) x) (subI (p2 m) y)
theorem get_spec {l : List Nd} (hl : looseB l = true) : ∀ {m : Nat} {n x y : Int}, m ≤ 1329 → kidB l ((m : Int) + 1) n = true → 0 ≤ x → x < p2 m → 0 ≤ y → y < p2 m → getF m l n x y = cellC (kidT (dens l) ((m : Int) + 1) n) x y
 | 0, n, x, y, _, hn, hx0, hx, hy0, hy => by
  rw [p2_zero] at hx hy
  obtain rfl : x = 0 := by omega
  obtain rfl : y = 0 := by omega
  show n = cellC (st n) 0 0
  unfold st
  split
  ·
   rename_i h; rw [h]; rfl
  ·
   rfl
 | m + 1, n, x, y, hm, hn, hx0, hx, hy0, hy => by
  obtain ⟨h1, h2, h3⟩ := node_fit hl (by omega) hn
  have hw : ∀ i, i < 4 → wfT (m : Int) (kidT (dens l) ((m : Int) + 1) ((nodeF m l n).kid i)) := fun i hi => kid_wf hl (by have := fit_kid h1 hi; rwa [h2] at this)
  have hk : ∀ i, i < 4 → kidB l ((m : Int) + 1) ((nodeF m l n).kid i) = true := fun i hi => by have := fit_kid h1 hi; rwa [h2] at this
  have hp := p2_succ m
  have hp1 := p2_pos m
  unfold getF
  rw [h3, norm_lv' h2, cell_mk (hw 0 (by omega)) (hw 1 (by omega)) (hw 2 (by omega)) (hw 3 (by omega))]
  by_cases hn0 : n = 0
  ·
   rw [if_pos hn0]
   have e : nodeF m l n = ⟨(m : Int) + 1, 0, 0, 0, 0⟩ := by unfold nodeF; rw [if_pos hn0]
   rw [e]
   show (0 : Int) = cellC (kidT (dens l) _ 0) _ _ + cellC (kidT (dens l) _ 0) _ _ + cellC (kidT (dens l) _ 0) _ _ + cellC (kidT (dens l) _ 0) _ _
   rw [kidT_zero]
   rfl
  ·
   rw [if_neg hn0]
   unfold qtI subI
   by_cases hx1 : x < p2 m
   ·
    by_cases hy1 : y < p2 m
    ·
     simp only [hx1, hy1, if_true]
     rw [get_spec hl (by omega) (hk _ (by omega)) hx0 hx1 hy0 hy1, cell_out (hw 1 (by omega)) (by omega), cell_out (hw 2 (by omega)) (by omega), cell_out (hw 3 (by omega)) (by omega)]
     simp
    ·
     simp only [hx1, hy1, if_true, if_false]
     rw [get_spec hl (by omega) (hk _ (by omega)) hx0 hx1 (by omega) (by omega), cell_out (hw 0 (by omega)) (by omega), cell_out (hw 1 (by omega)) (by omega), cell_out (hw 3 (by omega)) (by omega)]
     simp
   ·
    by_cases hy1 : y < p2 m
    ·
     simp only [hx1, hy1, if_true, if_false]
     rw [get_spec hl (by omega) (hk _ (by omega)) (by omega) (by omega) hy0 hy1, cell_out (hw 0 (by omega)) (by omega), cell_out (hw 2 (by omega)) (by omega), cell_out (hw 3 (by omega)) (by omega)]
     simp
    ·
     simp only [hx1, hy1, if_false]
     rw [get_spec hl (by omega) (hk _ (by omega)) (by omega) (by omega) (by omega) (by omega), cell_out (hw 0 (by omega)) (by omega), cell_out (hw 1 (by omega)) (by omega), cell_out (hw 2 (by omega)) (by omega)]
     simp
end Go.Proofs.YtajgfmfopkggdaaGreat

namespace Go.Proofs.YtajgfmfopkggdaaGreat
open Nds
theorem cellM_wf {m : Nat} {t : Tr} (h : wfT ((m + 1 : Nat) : Int) t) (x y : Int) : cellM t x y = cellC t (x + p2 m) (y + p2 m) := by
 cases t with
 | e => rfl
 | s k =>
  have := h.1
  omega
 | n v a b c d =>
  have e : (((m + 1 : Nat)) : Int) = v := h.1
  subst e
  show cellC _ _ _ = _
  rw [show (Tr.n ((m + 1 : Nat) : Int) a b c d).lv.toNat - 1 = m from by show (((m + 1 : Nat)) : Int).toNat - 1 = m; omega]
def wdK (l : List Nd) (t : Nd) : Nat → List Nd × Nd
 | 0 => (l, ⟨t.lv + 1, 0, 0, 0, 0⟩)
 | k + 1 => if t.kid k = 0 then wdK l t k else ((wdK l t k).1 ++ [chK ⟨t.lv, 0, 0, 0, 0⟩ (3 - k) (t.kid k)], chK (wdK l t k).2 k (((wdK l t k).1.length + 1 : Nat) : Int))
def wideF (l : List Nd) : List Nd := (wdK l (at_ l (l.length - 1)) 4).1 ++ [(wdK l (at_ l (l.length - 1)) 4).2]
def corT (m j : Nat) (K : Tr) : Tr := mk ((m : Int) + 1) (if j = 3 then K else .e) (if j = 2 then K else .e) (if j = 1 then K else .e) (if j = 0 then K else .e)
theorem cor_e (m j : Nat) : corT m j .e = .e := by
 unfold corT
 simp only [ite_self]
 rfl
theorem cor_cells {m j : Nat} {K : Tr} (hK : wfT (m : Int) K) (hj : j < 4) (u v : Int) : cellC (corT m j K) u v = cellC K (u - offX m (3 - j)) (v - offY m (3 - j)) := by
 have we : wfT (m : Int) .e := trivial
 unfold corT
 match j, hj with
 | 0, _ =>
  rw [cell_mk (by simpa using we) (by simpa using we) (by simpa using we) (by simpa using hK)]
  simp [cellC_e, offX, offY]
 | 1, _ =>
  rw [cell_mk (by simpa using we) (by simpa using we) (by simpa using hK) (by simpa using we)]
  simp [cellC_e, offX, offY]
 | 2, _ =>
  rw [cell_mk (by simpa using we) (by simpa using hK) (by simpa using we) (by simpa using we)]
  simp [cellC_e, offX, offY]
 | 3, _ =>
  rw [cell_mk (by simpa using hK) (by simpa using we) (by simpa using we) (by simpa using we)]
  simp [cellC_e, offX, offY]
structure Wds (l : List Nd) (t : Nd) (m k : Nat) (o : List Nd) (x : Nd) : Prop where
 loose : looseB o = true
 pre : l <+: o
 len : o.length ≤ l.length + k
 lv : x.lv = (m : Int) + 1 + 1
 zero : ∀ j, j < 4 → k ≤ j → x.kid j = 0
 kid : ∀ j, j < k → kidB o ((m : Int) + 1 + 1) (x.kid j) = true ∧ kidT (dens o) ((m : Int) + 1 + 1) (x.kid j) = corT m j (kidT (dens l) ((m : Int) + 1) (t.kid j))
theorem kid0 (l : List Nd) {v : Int} (hv : 1 ≤ v) : kidB l v 0 = true := by
 by_cases h1 : v = 1
 ·
  rw [h1, kidB_one]; rfl
 ·
  exact kidB_zero _ _ h1
theorem wd_spec {l : List Nd} {t : Nd} {m : Nat} (hl : looseB l = true) (ht : fitB l t = true) (hlv : t.lv = (m : Int) + 1) (hm : m ≤ 1327) : ∀ k, k ≤ 4 → Wds l t m k (wdK l t k).1 (wdK l t k).2
 | 0, _ => ⟨hl, List.prefix_refl _, Nat.le_refl _, by show t.lv + 1 = _; rw [hlv], fun j hj _ => by
   match j, hj with
   | 0, _ => rfl
   | 1, _ => rfl
   | 2, _ => rfl
   | 3, _ => rfl, fun j hj => by omega⟩
 | k + 1, hk => by
  have ih := wd_spec hl ht hlv hm k (by omega)
  have hne : (m : Int) + 1 + 1 ≠ 1 := by omega
  have hkt : kidB l ((m : Int) + 1) (t.kid k) = true := by have := fit_kid ht (i := k) (by omega); rwa [hlv] at this
  unfold wdK
  obtain ⟨o, ho⟩ : ∃ o, o = (wdK l t k).1 := ⟨_, rfl⟩
  obtain ⟨x, hx⟩ : ∃ x, x = (wdK l t k).2 := ⟨_, rfl⟩
  rw [← ho, ← hx] at ih
  by_cases h0 : t.kid k = 0
  ·
   rw [if_pos h0, ← ho, ← hx]
   refine ⟨ih.loose, ih.pre, Nat.le_succ_of_le ih.len, ih.lv, fun j hj hkj => ih.zero j hj (by omega), fun j hj => ?_⟩
   rcases Nat.lt_or_ge j k with h1 | h1
   ·
    exact ih.kid j h1
   ·
    obtain rfl : j = k := by omega
    rw [ih.zero j (by omega) (Nat.le_refl _), h0, kidT_zero, kidT_zero, cor_e]
    exact ⟨kidB_zero _ _ hne, rfl⟩
  ·
   rw [if_neg h0, ← ho, ← hx]
   obtain ⟨c, hc⟩ : ∃ c, c = chK ⟨t.lv, 0, 0, 0, 0⟩ (3 - k) (t.kid k) := ⟨_, rfl⟩
   rw [← hc]
   have hclv : c.lv = (m : Int) + 1 := by rw [hc, chK_lv]; exact hlv
   have hck : ∀ j, j < 4 → c.kid j = if j = 3 - k then t.kid k else 0 := fun j hj => by
    rw [hc, chK_kid _ (by omega) _ hj]
    split
    ·
     rfl
    ·
     match j, hj with
     | 0, _ => rfl
     | 1, _ => rfl
     | 2, _ => rfl
     | 3, _ => rfl
   have hcf : fitB o c = true := by
    have h1 : ∀ j, j < 4 → kidB o ((m : Int) + 1) (c.kid j) = true := fun j hj => by
     rw [hck j hj]
     split
     ·
      exact kidB_pre ih.pre hkt
     ·
      exact kid0 _ (by omega)
    unfold fitB Nd.each
    rw [hclv, decide_eq_true (show 1 ≤ (m : Int) + 1 ∧ (m : Int) + 1 ≤ 1329 by omega)]
    show (true && (kidB o ((m : Int) + 1) (c.kid 0) && kidB o ((m : Int) + 1) (c.kid 1) && kidB o ((m : Int) + 1) (c.kid 2) && kidB o ((m : Int) + 1) (c.kid 3))) = true
    rw [h1 0 (by omega), h1 1 (by omega), h1 2 (by omega), h1 3 (by omega)]
    rfl
   have hcn : norm (dens o) c = corT m k (kidT (dens l) ((m : Int) + 1) (t.kid k)) := by
    have h1 : ∀ j, j < 4 → kidT (dens o) ((m : Int) + 1) (c.kid j) = if j = 3 - k then kidT (dens l) ((m : Int) + 1) (t.kid k) else .e := fun j hj => by
     rw [hck j hj]
     split
     ·
      exact kidT_pre ih.pre hkt
     ·
      exact kidT_zero _ _
    rw [norm_lv' hclv, h1 0 (by omega), h1 1 (by omega), h1 2 (by omega), h1 3 (by omega)]
    unfold corT
    have hk4 : k = 0 ∨ k = 1 ∨ k = 2 ∨ k = 3 := by omega
    rcases hk4 with rfl | rfl | rfl | rfl <;> rfl
   refine ⟨loose_snoc ih.loose hcf, ih.pre.trans (List.prefix_append _ _), ?_, by rw [chK_lv, ih.lv], fun j hj hkj => ?_, fun j hj => ?_⟩
   ·
    rw [List.length_append, List.length_singleton]
    have := ih.len
    omega
   ·
    rw [chK_kid _ (by omega) _ hj, if_neg (by omega)]
    exact ih.zero j hj (by omega)
   ·
    rw [chK_kid _ (by omega) _ (by omega)]
    by_cases hjk : j = k
    ·
     subst hjk
     rw [if_pos rfl, show (((o.length + 1 : Nat)) : Int) = (o.length : Int) + 1 by omega]
     refine ⟨?_, ?_⟩
     ·
      rw [kidB_in _ _ _ hne (by simp), at_last]
      exact decide_eq_true (by rw [hclv]; omega)
     ·
      rw [kidT_den hne, show ((o.length : Int) + 1).toNat = o.length + 1 by omega, den_last, hcn]
    ·
     rw [if_neg hjk]
     obtain ⟨h1, h2⟩ := ih.kid j (by omega)
     exact ⟨kidB_pre (List.prefix_append _ _) h1, by rw [kidT_pre (List.prefix_append _ _) h1, h2]⟩
structure Wis (l : List Nd) (m : Nat) (g : List Nd) : Prop where
 loose : looseB g = true
 pre : l <+: g
 pos : 0 < g.length
 lv : (at_ g (g.length - 1)).lv = (m : Int) + 1
 cells : ∀ x y, cellM (den g g.length) x y = cellM (den l l.length) x y
theorem wide_spec {l : List Nd} {m : Nat} (hl : looseB l = true) (h0 : 0 < l.length) (hlv : (at_ l (l.length - 1)).lv = (m : Int) + 1) (hm : m ≤ 1327) : Wis l (m + 1) (wideF l) ∧ (wideF l).length ≤ l.length + 5 := by
 obtain ⟨p, hp⟩ : ∃ p, l.length = p + 1 := ⟨l.length - 1, by omega⟩
 have ht := loose_fit hl (i := l.length - 1) (by omega)
 have hw := wd_spec hl ht hlv hm 4 (Nat.le_refl _)
 unfold wideF
 obtain ⟨t, hte⟩ : ∃ t, t = at_ l (l.length - 1) := ⟨_, rfl⟩
 rw [← hte] at ht hlv hw ⊢
 obtain ⟨o, ho⟩ : ∃ o, o = (wdK l t 4).1 := ⟨_, rfl⟩
 obtain ⟨x, hx⟩ : ∃ x, x = (wdK l t 4).2 := ⟨_, rfl⟩
 rw [← ho, ← hx] at hw ⊢
 have hkt : ∀ j, j < 4 → wfT (m : Int) (kidT (dens l) ((m : Int) + 1) (t.kid j)) := fun j hj => kid_wf hl (by have := fit_kid ht hj; rwa [hlv] at this)
 have hxl : x.lv = ((m + 1 : Nat) : Int) + 1 := by rw [hw.lv]; omega
 have hxk : ∀ j, j < 4 → kidB o (((m + 1 : Nat) : Int) + 1) (x.kid j) = true ∧ kidT (dens o) (((m + 1 : Nat) : Int) + 1) (x.kid j) = corT m j (kidT (dens l) ((m : Int) + 1) (t.kid j)) := fun j hj => by
  have h := hw.kid j hj
  rwa [show (m : Int) + 1 + 1 = ((m + 1 : Nat) : Int) + 1 by omega] at h
 have hfit : fitB o x = true := by
  unfold fitB Nd.each
  rw [hxl, decide_eq_true (show 1 ≤ ((m + 1 : Nat) : Int) + 1 ∧ ((m + 1 : Nat) : Int) + 1 ≤ 1329 by omega)]
  show (true && (kidB o (((m + 1 : Nat) : Int) + 1) (x.kid 0) && kidB o (((m + 1 : Nat) : Int) + 1) (x.kid 1) && kidB o (((m + 1 : Nat) : Int) + 1) (x.kid 2) && kidB o (((m + 1 : Nat) : Int) + 1) (x.kid 3))) = true
  rw [(hxk 0 (by omega)).1, (hxk 1 (by omega)).1, (hxk 2 (by omega)).1, (hxk 3 (by omega)).1]
  rfl
 have hlo := loose_snoc hw.loose hfit
 have hlen : (o ++ [x]).length = o.length + 1 := by simp
 refine ⟨⟨hlo, hw.pre.trans (List.prefix_append _ _), by rw [hlen]; omega, by rw [hlen, Nat.add_sub_cancel, at_last, hxl], fun a b => ?_⟩, by have := hw.len; rw [hlen]; omega⟩
 have hwt := wf_den hlo o.length (by rw [hlen]; omega)
 rw [at_last, hxl, show ((m + 1 : Nat) : Int) + 1 = ((m + 1 + 1 : Nat) : Int) by omega] at hwt
 have hwl := wf_den hl p (by omega)
 have e1 : (at_ l p).lv = ((m + 1 : Nat) : Int) := by
  rw [show p = l.length - 1 by omega, ← hte, hlv]
  omega
 rw [e1] at hwl
 have ec : ∀ j, j < 4 → wfT ((m + 1 : Nat) : Int) (kidT (dens o) (((m + 1 : Nat) : Int) + 1) (x.kid j)) := fun j hj => kid_wf hw.loose (hxk j hj).1
 rw [hlen, cellM_wf hwt, hp, cellM_wf hwl, den_last, norm_lv' hxl, cell_mk (ec 0 (by omega)) (ec 1 (by omega)) (ec 2 (by omega)) (ec 3 (by omega)), (hxk 0 (by omega)).2, (hxk 1 (by omega)).2, (hxk 2 (by omega)).2, (hxk 3 (by omega)).2,
  cor_cells (hkt 0 (by omega)) (by omega), cor_cells (hkt 1 (by omega)) (by omega), cor_cells (hkt 2 (by omega)) (by omega), cor_cells (hkt 3 (by omega)) (by omega), den_loose hl (by omega), show at_ l p = t by rw [hte, hp]; rfl, norm_lv' hlv, cell_mk (hkt 0 (by omega)) (hkt 1 (by omega)) (hkt 2 (by omega)) (hkt 3 (by omega))]
 have ep := p2_succ m
 show cellC _ (_ - p2 m) (_ - p2 m) + cellC _ (_ - 0) (_ - p2 m) + cellC _ (_ - p2 m) (_ - 0) + cellC _ (_ - 0) (_ - 0) = _
 rw [show a + p2 (m + 1) - p2 m = a + p2 m by omega, show b + p2 (m + 1) - p2 m = b + p2 m by omega, show a + p2 (m + 1) - p2 (m + 1) - 0 = a + p2 m - p2 m by omega, show b + p2 (m + 1) - p2 (m + 1) - 0 = b + p2 m - p2 m by omega]
def growF : Nat → List Nd → List Nd
 | 0, l => l
 | d + 1, l => growF d (wideF l)
def QS (q : List Nd) : Prop := looseB q = true ∧ OfL q q.length = q
theorem QS.quad {q : List Nd} (h : QS q) : quadB q = true := by
 have h1 := ofL_quad h.1 (Nat.le_refl _)
 rwa [h.2] at h1
def SetOf (q : List Nd) (X Y s : Int) (q' : List Nd) : Prop := QS q' ∧ ∀ x y, cellM (den q' q'.length) x y = if x = X ∧ y = Y then s else cellM (den q q.length) x y
theorem qs_one {a b : List Nd} (ha : QS a) (hb : QS b) (h : ∀ x y, cellM (den a a.length) x y = cellM (den b b.length) x y) : a = b := by
 have h1 := ofL_cells ha.1 hb.1 (Nat.le_refl _) (Nat.le_refl _) h
 rwa [ha.2, hb.2] at h1
theorem SetOf.one {q a b : List Nd} {X Y s : Int} (h : SetOf q X Y s a) (k : SetOf q X Y s b) : a = b := qs_one h.1 k.1 fun x y => by rw [h.2, k.2]
end Go.Proofs.YtajgfmfopkggdaaGreat

namespace Go.Proofs.YtajgfmfopkggdaaGreat
open Go.RowKit Num Nds
theorem p2_nat (i : Nat) : p2 i = ((2 ^ i : Nat) : Int) := p2_cast i
theorem qt_bits (i X Y : Nat) : qtI (p2 i) ((X % 2 ^ (i + 1) : Nat) : Int) ((Y % 2 ^ (i + 1) : Nat) : Int) = X / 2 ^ i % 2 + 2 * (Y / 2 ^ i % 2) ∧ subI (p2 i) ((X % 2 ^ (i + 1) : Nat) : Int) = ((X % 2 ^ i : Nat) : Int) := by
 have key : ∀ X : Nat, X % 2 ^ (i + 1) = X % 2 ^ i + 2 ^ i * (X / 2 ^ i % 2) := fun X => Nat.mod_pow_succ
 have hp := Nat.two_pow_pos i
 have one : ∀ X : Nat, (((X % 2 ^ (i + 1) : Nat) : Int) < p2 i ↔ X / 2 ^ i % 2 = 0) := fun X => by
  have h1 := Nat.mod_lt X hp
  rw [key X, p2_nat]
  have h2 : X / 2 ^ i % 2 = 0 ∨ X / 2 ^ i % 2 = 1 := by omega
  rcases h2 with h | h
  ·
   rw [h, Nat.mul_zero, Nat.add_zero]
   exact ⟨fun _ => rfl, fun _ => by omega⟩
  ·
   rw [h, Nat.mul_one]
   constructor
   ·
    intro h3; omega
   ·
    intro h3; omega
 refine ⟨?_, ?_⟩
 ·
  unfold qtI
  have hx : X / 2 ^ i % 2 = 0 ∨ X / 2 ^ i % 2 = 1 := by omega
  have hy : Y / 2 ^ i % 2 = 0 ∨ Y / 2 ^ i % 2 = 1 := by omega
  rcases hx with h | h <;> rcases hy with k | k
  ·
   rw [if_pos ((one X).2 h), if_pos ((one Y).2 k), h, k]
  ·
   rw [if_pos ((one X).2 h), if_neg (fun e => by have := (one Y).1 e; omega), h, k]
  ·
   rw [if_neg (fun e => by have := (one X).1 e; omega), if_pos ((one Y).2 k), h, k]
  ·
   rw [if_neg (fun e => by have := (one X).1 e; omega), if_neg (fun e => by have := (one Y).1 e; omega), h, k]
 ·
  unfold subI
  have hx : X / 2 ^ i % 2 = 0 ∨ X / 2 ^ i % 2 = 1 := by omega
  rcases hx with h | h
  ·
   rw [if_pos ((one X).2 h), key X, h, Nat.mul_zero, Nat.add_zero]
  ·
   rw [if_neg (fun e => by have := (one X).1 e; omega), key X, h, Nat.mul_one, p2_nat]
   omega
def getQ (q : List Nd) (X Y : Int) : Int := cellM (den q q.length) X Y
theorem last_wf {q : List Nd} (hq : looseB q = true) {m : Nat} (hl : levelZ q = (m : Int) + 1) : ∃ p, q.length = p + 1 ∧ (at_ q p).lv = (m : Int) + 1 ∧ wfT ((m + 1 : Nat) : Int) (den q (p + 1)) := by
 unfold levelZ at hl
 by_cases h0 : q = []
 ·
  rw [if_pos h0] at hl
  omega
 ·
  rw [if_neg h0] at hl
  have h1 := List.length_pos_iff.2 h0
  refine ⟨q.length - 1, by omega, hl, ?_⟩
  have h2 := wf_den hq (q.length - 1) (by omega)
  rwa [hl, show (m : Int) + 1 = ((m + 1 : Nat) : Int) by omega] at h2
theorem getQ_in {q : List Nd} (hq : looseB q = true) {m : Nat} (hl : levelZ q = (m : Int) + 1) {X Y : Int} (hX : -p2 m ≤ X ∧ X < p2 m) (hY : -p2 m ≤ Y ∧ Y < p2 m) (hm : m ≤ 1328) : getQ q X Y = getF (m + 1) q (q.length : Int) (X + p2 m) (Y + p2 m) ∧ kidB q (((m + 1 : Nat) : Int) + 1) (q.length : Int) = true := by
 obtain ⟨p, hp, hlv, hw⟩ := last_wf hq hl
 have ep := p2_succ m
 have hne : (((m + 1 : Nat)) : Int) + 1 ≠ 1 := by omega
 have hk : kidB q (((m + 1 : Nat) : Int) + 1) (q.length : Int) = true := by
  rw [hp, show (((p + 1 : Nat)) : Int) = (p : Int) + 1 by omega, kidB_in _ _ _ hne (by omega)]
  exact decide_eq_true (by rw [hlv]; omega)
 refine ⟨?_, hk⟩
 rw [get_spec hq (m := m + 1) (by omega) hk (by omega) (by omega) (by omega) (by omega), kidT_den hne, Int.toNat_natCast]
 unfold getQ
 rw [hp, cellM_wf hw]
theorem getF_zero (m : Nat) (q : List Nd) (x y : Int) : getF m q 0 x y = 0 := by
 cases m with
 | zero => rfl
 | succ m => unfold getF; rw [if_pos rfl]
end Go.Proofs.YtajgfmfopkggdaaGreat

namespace Go.Proofs.YtajgfmfopkggdaaGreat
open Go.RowKit Num Nds
structure GetR (q : List Nd) (R : Int) (X Y : Nat) (j : Nat) (k : Int) : Prop where
 fits : kidB q ((j : Int) + 1) k = true
 got : getF j q k ((X % 2 ^ j : Nat) : Int) ((Y % 2 ^ j : Nat) : Int) = R
theorem GetR.last {q : List Nd} {R : Int} {X Y : Nat} {k : Int} (h : GetR q R X Y 0 k) : k = R := h.got
theorem GetR.none {q : List Nd} {R : Int} {X Y j : Nat} (h : GetR q R X Y j 0) : R = 0 := by
 rw [← h.got, getF_zero]
theorem GetR.some {q : List Nd} {R : Int} {X Y j : Nat} {k : Int} (h : GetR q R X Y (j + 1) k) : k = 0 ∨ ∃ p : Nat, k = (p : Int) + 1 ∧ p < q.length := by
 rcases kid_up (show (((j + 1 : Nat)) : Int) + 1 ≠ 1 by omega) h.fits with h | ⟨p, h, hp, -⟩
 ·
  exact .inl h
 ·
  exact .inr ⟨p, h, hp⟩
theorem GetR.step {q : List Nd} (hq : looseB q = true) {R : Int} {X Y j p : Nat} (hj : j ≤ 1328) (h : GetR q R X Y (j + 1) ((p : Int) + 1)) : GetR q R X Y j ((at_ q p).kid (qtr j X Y)) := by
 obtain ⟨h1, h2⟩ := h
 obtain ⟨f1, f2, -⟩ := node_fit hq hj h1
 have hne : ¬ (p : Int) + 1 = 0 := by omega
 have e : nodeF j q ((p : Int) + 1) = at_ q p := by
  unfold nodeF
  rw [if_neg hne, show ((p : Int) + 1 - 1).toNat = p by omega]
 rw [e] at f1 f2
 obtain ⟨b1, b2⟩ := qt_bits j X Y
 obtain ⟨-, b3⟩ := qt_bits j Y X
 have hqt : qtI (p2 j) ((X % 2 ^ (j + 1) : Nat) : Int) ((Y % 2 ^ (j + 1) : Nat) : Int) = qtr j X Y := b1
 have hlt : qtr j X Y < 4 := by rw [← hqt]; exact qtI_lt _ _ _
 refine ⟨?_, ?_⟩
 ·
  have := fit_kid f1 hlt
  rwa [f2] at this
 ·
  unfold getF at h2
  rw [if_neg hne, e, hqt, b2, b3] at h2
  exact h2
theorem GetR.start {q : List Nd} (hq : looseB q = true) {m : Nat} (hl : levelZ q = (m : Int) + 1) {X Y : Int} (hX : -p2 m ≤ X ∧ X < p2 m) (hY : -p2 m ≤ Y ∧ Y < p2 m) (hm : m ≤ 1328) {x y : Nat} (hx : (x : Int) = X + p2 m) (hy : (y : Int) = Y + p2 m) : GetR q (getQ q X Y) x y (m + 1) (q.length : Int) := by
 obtain ⟨h1, h2⟩ := getQ_in hq hl hX hY hm
 have ep := p2_succ m
 have ep1 := p2_nat (m + 1)
 refine ⟨h2, ?_⟩
 rw [Nat.mod_eq_of_lt (show x < 2 ^ (m + 1) by omega), Nat.mod_eq_of_lt (show y < 2 ^ (m + 1) by omega), hx, hy]
 exact h1.symm
end Go.Proofs.YtajgfmfopkggdaaGreat

namespace Go.Proofs.YtajgfmfopkggdaaGreat
open Go.RowKit Nds
theorem wdK_skip {l : List Nd} {t : Nd} {k : Nat} (h : t.kid k = 0) : wdK l t (k + 1) = wdK l t k := if_pos h
theorem wdK_next {l : List Nd} {t : Nd} {k : Nat} (h : t.kid k ≠ 0) : wdK l t (k + 1) = ((wdK l t k).1 ++ [chK ⟨t.lv, 0, 0, 0, 0⟩ (3 - k) (t.kid k)], chK (wdK l t k).2 k (((wdK l t k).1.length + 1 : Nat) : Int)) := if_neg h
theorem NdBox.cells {w : World} {g : Nat} {x : Nd} (h : NdBox w g x) : w.cell? ⟨g, 0, none⟩ = some (.int .i64 x.lv) ∧ w.cell? ⟨g, 1, none⟩ = some (.int .i64 x.a) ∧ w.cell? ⟨g, 2, none⟩ = some (.int .i64 x.b) ∧ w.cell? ⟨g, 3, none⟩ = some (.int .i64 x.c) ∧ w.cell? ⟨g, 4, none⟩ = some (.int .i64 x.d) := h.at_
end Go.Proofs.YtajgfmfopkggdaaGreat

namespace Go.Proofs.YtajgfmfopkggdaaGreat
open Go.RowKit Nds
def growQ (lv : Nat) (q : List Nd) : List Nd := if q.length = 0 then [] else growF (lv - (at_ q (q.length - 1)).lv.toNat) q
theorem wdK_more (l : List Nd) (t : Nd) : ∀ k, l.length ≤ (wdK l t k).1.length
 | 0 => Nat.le_refl _
 | k + 1 => by
  have := wdK_more l t k
  by_cases h : t.kid k = 0
  ·
   rw [wdK_skip h]; omega
  ·
   rw [wdK_next h]; simp; omega
theorem wide_more (l : List Nd) : l.length + 1 ≤ (wideF l).length := by
 unfold wideF
 have := wdK_more l (at_ l (l.length - 1)) 4
 rw [List.length_append, List.length_singleton]
 omega
structure GrS (lv : Nat) (q : List Nd) (d m : Nat) (g : List Nd) : Prop where
 loose : looseB g = true
 size : g.length = m + 1
 low : (lv : Int) ≤ (at_ g m).lv + d
 up : 0 < d → (at_ g m).lv + d = lv
 len : m + 5 * d ≤ q.length + 6645
 same : growF d g = growQ lv q
theorem GrS.start {lv : Nat} {q : List Nd} (hl : looseB q = true) (h9 : lv ≤ 1329) {p : Nat} (hp : q.length = p + 1) : GrS lv q (lv - (at_ q p).lv.toNat) p q := by
 have hv := fit_lv (loose_fit hl (i := p) (by omega))
 refine ⟨hl, hp, by omega, fun h => by omega, by omega, ?_⟩
 unfold growQ
 rw [if_neg (by omega), hp, Nat.add_sub_cancel]
theorem GrS.next {lv : Nat} {q g : List Nd} (h9 : lv ≤ 1329) {d m : Nat} (h : GrS lv q (d + 1) m g) : ∃ m2, GrS lv q d m2 (wideF g) ∧ m < m2 ∧ m2 ≤ m + 5 := by
 have hu := h.up (by omega)
 have hf := fit_lv (loose_fit h.loose (i := m) (by rw [h.size]; omega))
 obtain ⟨k, hk⟩ : ∃ k : Nat, (at_ g m).lv = (k : Int) + 1 := ⟨((at_ g m).lv - 1).toNat, by omega⟩
 have hs := h.size
 obtain ⟨w1, w2⟩ := wide_spec h.loose (m := k) (by omega) (by rw [hs, Nat.add_sub_cancel]; exact hk) (by omega)
 have hm := wide_more g
 have hlv := w1.lv
 obtain ⟨m2, hm2⟩ : ∃ m2, (wideF g).length = m2 + 1 := ⟨(wideF g).length - 1, by omega⟩
 rw [hm2, Nat.add_sub_cancel] at hlv
 have hlen := h.len
 exact ⟨m2, ⟨w1.loose, hm2, by rw [hlv]; omega, fun h2 => by rw [hlv]; omega, by omega, h.same⟩, by omega, by omega⟩
end Go.Proofs.YtajgfmfopkggdaaGreat

namespace Go.Proofs.YtajgfmfopkggdaaGreat
open Go.RowKit Num Nds
def CutN (w : World) (base : Nat) (v : Value) (l : List Nd) : Prop := OwnN w base v l ∨ ∃ A d, v = .slice A l.length l.length ∧ Ns w A d l ∧ (A = none → l.length = 0)
theorem CutN.low {w : World} {base b : Nat} {v : Value} {l : List Nd} (h : CutN w base v l) (hb : b ≤ base) : CutN w b v l := by
 rcases h with h | h
 ·
  exact .inl (h.mono hb)
 ·
  exact .inr h
end Go.Proofs.YtajgfmfopkggdaaGreat

namespace Go.Proofs.YtajgfmfopkggdaaGreat
open Go.RowKit Num Nds
def maxN (x : Nd) : Int := max (max (max x.a x.b) x.c) x.d
def mostF (l : List Nd) : Int := l.foldl (fun m x => if x.lv = 1 then max m (maxN x) else m) 0
theorem most_snoc (l : List Nd) (x : Nd) : mostF (l ++ [x]) = if x.lv = 1 then max (mostF l) (maxN x) else mostF l := by
 unfold mostF
 rw [List.foldl_append]
 rfl
theorem most_take {l : List Nd} {i : Nat} (hi : i < l.length) : mostF (l.take (i + 1)) = if (at_ l i).lv = 1 then max (mostF (l.take i)) (maxN (at_ l i)) else mostF (l.take i) := by
 rw [take_at hi, most_snoc]
set_option maxHeartbeats 1600000 in
theorem max4_any (g : Nat) (x : Nd) (w : World) (h : NdBox w g x) :
  Calls Tryz.prog 118 #[.slice (some ⟨g, 1, none⟩) 4 4] w fun e w' => e = .returned (.int .i64 (maxN x)) ∧ w' = w := by
 obtain ⟨c0, c1, c2, c3, c4⟩ := h.cells
 obtain ⟨m, hm⟩ : ∃ m, m = maxN x := ⟨_, rfl⟩
 rw [← hm]
 have HM := Lib.hid hm
 clear h hm
 go_enter Tryz.func118, Tryz.ntmps118
 go_wp2_with fail
 refine wp_loop_rounds 4 ?_
 rw [rounds_succ]
 go_wp2_with fail
 rw [rounds_succ]
 go_wp2_with fail
 rw [rounds_succ]
 go_wp2_with fail
 rw [rounds_succ]
 go_wp2_with fail
 go_ret
 refine ⟨?_, rfl⟩
 show Ending.returned (.int .i64 (max x.a (max x.b (max x.c x.d)))) = _
 rw [HM.out]
 exact ret_int (by unfold maxN; omega)
set_option maxHeartbeats 3200000 in
theorem most_lk (A : Option Addr) (c n : Nat) (q : List Nd) (w : World) (h : Ns w A c q) (hn : q.length = n) :
  Calls Tryz.prog 75 #[.agg #[.slice A n c]] w fun e w' => e = .returned (.int .u8 (mostF q % 256)) ∧ Below w.heap.size w w' := by
 have hcap := h.cap
 rw [hn] at hcap
 have hb := (Below.refl w.heap.size w).alloc (Nat.le_refl _) (.cells #[.slice A n c] 26)
 have HB := Lib.hid hb
 have HN := Lib.hid (h.below hb)
 have HL := Lib.hid hn
 clear h hb hn
 go_enter Tryz.func75, Tryz.ntmps75
 go_wp2_with fail
 go_loopw [9, 5, 3] (fun z1 z2 z3 wr => ∃ (i : Nat) (u : Value), i ≤ n ∧ z1 = .int .i64 i ∧ z2 = u ∧ z3 = .int .i64 (mostF (q.take i)) ∧ Below (w.alloc (.cells #[.slice A n c] 26)).heap.size (w.alloc (.cells #[.slice A n c] 26)) wr) (fun z1 _ _ _ => n - (intOf z1).toNat)
 case atStart => exact ⟨0, _, by omega, rfl, rfl, rfl, Below.refl _ _⟩
 case round =>
  obtain ⟨i, u, hi, rfl, rfl, rfl, hbw⟩ := hrel
  have HBW := Lib.hid hbw
  obtain ⟨M, hM⟩ : ∃ M, M = mostF (q.take i) := ⟨_, rfl⟩
  rw [← hM]
  have HM := Lib.hid hM
  by_cases hlt : i < n
  ·
   have hil : i < q.length := by rw [HL.out]; exact hlt
   have hmt := most_take hil
   obtain ⟨b, off, rfl, hbl, hcl⟩ := (HN.out.below hbw).at_ (by omega)
   obtain ⟨c1, c2, c3, c4, c5⟩ := hcl i hil
   obtain ⟨x, hx⟩ : ∃ x, x = at_ q i := ⟨_, rfl⟩
   rw [← hx] at c1 c2 c3 c4 c5 hmt
   rw [← hM] at hmt
   have HMT := Lib.hid hmt
   have i1 : (i : Int) < (n : Int) := by omega
   have hnb := NdBox.new wr x
   have HNB := Lib.hid hnb
   have HB2 := Lib.hid (hbw.alloc hbw.size (.cells #[.int .i64 x.lv, .int .i64 x.a, .int .i64 x.b, .int .i64 x.c, .int .i64 x.d] 91))
   clear hbw hM hil hmt hbl hcl hx hnb
   by_cases h1 : x.lv = 1
   ·
    have t1 : (x.lv == 1) = true := beq_iff_eq.2 h1
    have HO := Lib.hid h1
    clear h1
    go_wp2_with (go_at_call 118; go_loud (refine (max4_any _ x _ HNB.out).mono ?_; rintro e w2 ⟨rfl, rfl⟩))
    go_roundw
    case rel => exact ⟨i + 1, _, by omega, by go_num, rfl, by rw [HMT.out, if_pos HO.out], HB2.out⟩
    case measure => simp [intOf]; omega
   ·
    have t1 : (x.lv == 1) = false := beq_eq_false_iff_ne.2 h1
    go_wp2_with fail
    go_roundw
    case rel => exact ⟨i + 1, _, by omega, by go_num, rfl, by rw [HMT.out, if_neg h1], HB2.out⟩
    case measure => simp [intOf]; omega
  ·
   have e : i = n := by omega
   subst e
   have HMQ := Lib.hid (show M = mostF q by rw [hM, List.take_of_length_le (by rw [HL.out]; omega)])
   clear hbw hM
   go_wp2_with fail
   go_ret
   exact ⟨by rw [← HMQ.out]; rfl, HB.out.trans (HBW.out.mono HB.out.size)⟩
def maxK (M : Int) (x : Nd) : Nat → Int
 | 0 => M
 | k + 1 => max (maxK M x k) (x.kid k)
theorem maxK_four (M : Int) (x : Nd) : maxK M x 4 = max M (maxN x) := by
 show max (max (max (max M x.a) x.b) x.c) x.d = max M (max (max (max x.a x.b) x.c) x.d)
 omega
set_option maxHeartbeats 3200000 in
theorem rmost_lk (A : Option Addr) (c n : Nat) (q : List Nd) (w : World) (h : Ns w A c q) (hn : q.length = n) :
  Calls Tryz.prog 76 #[.agg #[.slice A n c]] w fun e w' => e = .returned (.int .u8 (mostF q % 256)) ∧ Below w.heap.size w w' := by
 have hcap := h.cap
 rw [hn] at hcap
 obtain ⟨W, hW⟩ : ∃ W : World, W = w.alloc (.cells #[.slice A n c] 26) := ⟨_, rfl⟩
 have hb : Below w.heap.size w W := by rw [hW]; exact (Below.refl w.heap.size w).alloc (Nat.le_refl _) _
 have HB := Lib.hid hb
 have HN := Lib.hid (h.below hb)
 have HL := Lib.hid hn
 have hbx : W.heap[w.heap.size]? = some (.cells #[.slice A n c] 26) := by rw [hW]; exact heap_alloc_new w _
 have a0 := one_cell hbx
 have HA0 := Lib.hid a0
 have HW := Lib.hid hW
 clear h hb hn hbx hW
 go_enter Tryz.func76, Tryz.ntmps76
 go_wp2_with fail
 rw [← HW.out]
 go_loopw [4, 5, 3] (fun z1 z2 z3 wr => ∃ (i : Nat) (u : Value), i ≤ n ∧ z1 = .int .i64 i ∧ z2 = u ∧ z3 = .int .i64 (mostF (q.take i)) ∧ W = wr) (fun z1 _ _ _ => n - (intOf z1).toNat)
 case atStart => exact ⟨0, _, by omega, rfl, rfl, rfl, rfl⟩
 case round =>
  obtain ⟨i, u, hi, rfl, rfl, rfl, rfl⟩ := hrel
  obtain ⟨M, hM⟩ : ∃ M, M = mostF (q.take i) := ⟨_, rfl⟩
  rw [← hM]
  by_cases hlt : i < n
  ·
   have hil : i < q.length := by rw [HL.out]; exact hlt
   have hmt := most_take hil
   obtain ⟨b, off, rfl, hbl, hcl⟩ := HN.out.at_ (by omega)
   have hci := hcl i hil
   obtain ⟨x, hx⟩ : ∃ x, x = at_ q i := ⟨_, rfl⟩
   rw [← hx] at hci hmt
   rw [← hM] at hmt
   have HMT := Lib.hid hmt
   have HCI := Lib.hid hci
   have c1 := hci.1
   have i1 : (i : Int) < (n : Int) := by omega
   have hco := HA0.out
   clear hM hil hmt hbl hcl hx hci
   by_cases h1 : x.lv = 1
   ·
    have t1 : (x.lv == 1) = true := beq_iff_eq.2 h1
    have HO := Lib.hid h1
    clear h1
    go_wp2_with fail
    go_loopw [5, 3] (fun z1 z2 wr => ∃ (j : Nat), j ≤ 4 ∧ z1 = .int .i64 j ∧ z2 = .int .i64 (maxK M x j) ∧ W = wr) (fun z1 _ _ => 4 - (intOf z1).toNat)
    case atStart => exact ⟨0, by omega, rfl, rfl, rfl⟩
    case round =>
     obtain ⟨j, hj, rfl, rfl, rfl⟩ := hrel
     by_cases hj4 : j < 4
     ·
      have hk := HCI.out.kid hj4
      have i2 : (j : Int) < 4 := by omega
      have i3 : (0 : Int) ≤ (j : Int) := by omega
      obtain ⟨K_, hK_⟩ : ∃ K_, K_ = maxK M x j := ⟨_, rfl⟩
      rw [← hK_]
      have HK_ := Lib.hid hK_
      have t2 : decide ((j : Int) < 4) = true := decide_eq_true i2
      clear hK_
      go_wp2_with fail
      go_roundw
      case rel => exact ⟨j + 1, by omega, by go_num, by rw [HK_.out]; rfl, trivial⟩
      case measure => simp [intOf]; omega
     ·
      have hj5 : j = 4 := by omega
      subst hj5
      go_wp2_with fail
      go_roundw
      case rel => exact ⟨i + 1, _, by omega, by go_num, rfl, by rw [HMT.out, if_pos HO.out, maxK_four], trivial⟩
      case measure => simp [intOf]; omega
   ·
    have t1 : (x.lv == 1) = false := beq_eq_false_iff_ne.2 h1
    go_wp2_with fail
    refine wp_loop_rounds 1 ?_
    rw [rounds_succ]
    go_wp2_with fail
    go_roundw
    case rel => exact ⟨i + 1, _, by omega, by go_num, rfl, by rw [HMT.out, if_neg h1], trivial⟩
    case measure => simp [intOf]; omega
  ·
   have e : i = n := by omega
   subst e
   have HMQ := Lib.hid (show M = mostF q by rw [hM, List.take_of_length_le (by rw [HL.out]; omega)])
   clear hM
   go_wp2_with fail
   go_ret
   exact ⟨by rw [← HMQ.out]; rfl, HB.out⟩
end Go.Proofs.YtajgfmfopkggdaaGreat

namespace Go.Proofs.YtajgfmfopkggdaaGreat
theorem wpAnyH_states {P : Program} {md : Region.Mode} {ops : Array Oper} {Q : Exit → Act → World → Prop} {S : World → Prop} {T : Type} (rank : T → Nat) (mask : T → Array Bool) (left : T → Nat) (inv : T → Act → World → Prop)
  (h : ∀ s, (∀ s', rank s' < rank s → ∀ a w, inv s' a w → wpAnyH P md ops Q S (left s') (mask s') a w) → ∀ a w, inv s a w → wpAnyH P md ops Q S (left s) (mask s) a w) :
  ∀ (s : T) (a : Act) (w : World), inv s a w → wpAnyH P md ops Q S (left s) (mask s) a w := by
 have key : ∀ (n : Nat) (s : T), rank s ≤ n → ∀ (a : Act) (w : World), inv s a w → wpAnyH P md ops Q S (left s) (mask s) a w := by
  intro n
  induction n with
  | zero => exact fun s hs => h s (fun s' hs' => by omega)
  | succ n ih => exact fun s hs => h s (fun s' hs' => ih s' (by omega))
 exact fun s => key (rank s) s (Nat.le_refl _)
theorem wpAnyH_states2 {P : Program} {md : Region.Mode} {ops : Array Oper} {Q : Exit → Act → World → Prop} {S : World → Prop} {T : Type} (rank : T → Nat) (mask : T → Array Bool) (left : T → Nat) (inv : T → Act → World → Prop)
  (h : ∀ s, (∀ s' k m, rank s' < rank s → k = left s' → m = mask s' → ∀ a w, inv s' a w → wpAnyH P md ops Q S k m a w) → ∀ a w, inv s a w → wpAnyH P md ops Q S (left s) (mask s) a w) :
  ∀ (s : T) (k : Nat) (m : Array Bool), k = left s → m = mask s → ∀ (a : Act) (w : World), inv s a w → wpAnyH P md ops Q S k m a w := by
 intro s k m hk hm a w hi
 subst hk hm
 exact wpAnyH_states rank mask left inv (fun s ih => h s (fun s' k m hr hk hm a w hi => by subst hk hm; exact ih s' hr a w hi)) s a w hi
end Go.Proofs.YtajgfmfopkggdaaGreat
