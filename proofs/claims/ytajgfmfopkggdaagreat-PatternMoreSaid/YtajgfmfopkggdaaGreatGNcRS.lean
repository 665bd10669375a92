/-
  cells: a tree's cells as a list, how many they are; quads with the same cells are one; plain.
  cells: the quad of a list of cells, said by what it is; the cells of a list's last node; plain.
  cells: how many; a list turned around; plain.
  node: the laws' examples.
  node: slices of nodes that the call has made; append.
  canon: memory: what a call may turn; a node that is filled kid by kid; a row of numbers of the call's own.
  canon: the reference's Inner, find, Same.
  canon: the reference's Shrink.
-/
import Derived.Test.YtajgfmfopkggdaaGreatGClG
import Derived.Test.YtajgfmfopkggdaaGreatGNcE
import Derived.Test.YtajgfmfopkggdaaGreatGNdsE
import Derived.OwnWalk
import Derived.Laws.AppendOwnNone
import Derived.Maps.AppendAt

set_option linter.unusedVariables false
set_option linter.unusedSimpArgs false
set_option maxRecDepth 100000
namespace Go.Proofs.YtajgfmfopkggdaaGreat
open Nds
def listT : Tr → Int → Int → List Cl
 | .e, _, _ => []
 | .s k, X, Y => [⟨X, Y, k⟩]
 | .n v a b c d, X, Y => listT a X Y ++ listT b (X + p2 (v.toNat - 1)) Y ++ listT c X (Y + p2 (v.toNat - 1)) ++ listT d (X + p2 (v.toNat - 1)) (Y + p2 (v.toNat - 1))
def countT : Tr → Nat
 | .e => 0
 | .s _ => 1
 | .n _ a b c d => countT a + countT b + countT c + countT d
theorem listT_len : ∀ (t : Tr) (X Y : Int), (listT t X Y).length = countT t
 | .e, _, _ => rfl
 | .s k, _, _ => rfl
 | .n v a b c d, X, Y => by
  show (listT a X Y ++ listT b (X + p2 (v.toNat - 1)) Y ++ listT c X (Y + p2 (v.toNat - 1)) ++ listT d (X + p2 (v.toNat - 1)) (Y + p2 (v.toNat - 1))).length = countT a + countT b + countT c + countT d
  rw [List.length_append, List.length_append, List.length_append, listT_len a, listT_len b, listT_len c, listT_len d]
theorem lk_app : ∀ (l m : List Cl) (x y : Int), lk (l ++ m) x y = if (∃ c ∈ l, c.x = x ∧ c.y = y) then lk l x y else lk m x y
 | [], m, x, y => by
  rw [if_neg (by rintro ⟨c, hc, _⟩; cases hc)]
  rfl
 | a :: l, m, x, y => by
  show (if a.x = x ∧ a.y = y then a.s else lk (l ++ m) x y) = if _ then (if a.x = x ∧ a.y = y then a.s else lk l x y) else _
  by_cases ha : a.x = x ∧ a.y = y
  ·
   rw [if_pos ha, if_pos ⟨a, by simp, ha⟩, if_pos ha]
  ·
   rw [if_neg ha, lk_app l m x y]
   by_cases hl : ∃ c ∈ l, c.x = x ∧ c.y = y
   ·
    obtain ⟨c, hc, h⟩ := hl
    rw [if_pos ⟨c, hc, h⟩, if_pos ⟨c, by simp [hc], h⟩, if_neg ha]
   ·
    rw [if_neg hl, if_neg]
    rintro ⟨c, hc, h⟩
    rcases List.mem_cons.1 hc with rfl | hc
    ·
     exact ha h
    ·
     exact hl ⟨c, hc, h⟩
theorem lk_app_sq {X Y h : Int} {l m : List Cl} (hl : ∀ c ∈ l, sqB X Y h c = true) (hm : ∀ c ∈ m, sqB X Y h c = false) (x y : Int) : lk (l ++ m) x y = lk l x y + lk m x y := by
 rw [lk_app]
 by_cases he : ∃ c ∈ l, c.x = x ∧ c.y = y
 ·
  rw [if_pos he]
  obtain ⟨c, hc, h1⟩ := he
  have h2 := sq_iff.1 (hl c hc)
  rw [lk_none (l := m) (fun d hd e => by
   have h3 := hm d hd
   have h4 : sqB X Y h d = true := sq_iff.2 (by rw [e.1, e.2, ← h1.1, ← h1.2]; exact h2)
   rw [h4] at h3
   cases h3)]
  omega
 ·
  rw [if_neg he, lk_none (l := l) (fun d hd e => he ⟨d, hd, e⟩)]
  omega
theorem listT_spec : ∀ (t : Tr) (n : Nat) (X Y : Int), wfT (n : Int) t → Fine (listT t X Y) ∧ (∀ c ∈ listT t X Y, sqB X Y (p2 n) c = true) ∧ ∀ x y, lk (listT t X Y) x y = cellC t (x - X) (y - Y)
 | .e, _, _, _, _ => ⟨⟨fun c hc => absurd hc (List.not_mem_nil), List.Pairwise.nil⟩, fun c hc => absurd hc (List.not_mem_nil), fun x y => rfl⟩
 | .s k, n, X, Y, hw => by
  have hn : (n : Int) = 0 := hw.1
  have : n = 0 := by omega
  subst this
  refine ⟨⟨fun c hc => ?_, List.pairwise_singleton _ _⟩, fun c hc => ?_, fun x y => ?_⟩
  ·
   rw [List.mem_singleton.1 hc]
   exact ⟨hw.2.1, hw.2.2⟩
  ·
   rw [List.mem_singleton.1 hc, sq_iff, p2_zero]
   show X ≤ X ∧ X < X + 1 ∧ Y ≤ Y ∧ Y < Y + 1
   omega
  ·
   show (if X = x ∧ Y = y then k else 0) = if x - X = 0 ∧ y - Y = 0 then k else 0
   by_cases h : X = x ∧ Y = y
   ·
    rw [if_pos h, if_pos (by omega)]
   ·
    rw [if_neg h, if_neg (by omega)]
 | .n v a b c d, n, X, Y, hw => by
  obtain ⟨m, rfl, rfl, ha, hb, hc, hd, _⟩ := wf_n hw
  have hp := p2_pos m
  have ep := p2_succ m
  obtain ⟨fa, sa, ka⟩ := listT_spec a m X Y ha
  obtain ⟨fb, sb, kb⟩ := listT_spec b m (X + p2 m) Y hb
  obtain ⟨fc, sc, kc⟩ := listT_spec c m X (Y + p2 m) hc
  obtain ⟨fd, sd, kd⟩ := listT_spec d m (X + p2 m) (Y + p2 m) hd
  have e : ((m : Int) + 1).toNat - 1 = m := by omega
  have el : listT (.n ((m : Int) + 1) a b c d) X Y = listT a X Y ++ listT b (X + p2 m) Y ++ listT c X (Y + p2 m) ++ listT d (X + p2 m) (Y + p2 m) := by
   show listT a X Y ++ listT b (X + p2 (((m : Int) + 1).toNat - 1)) Y ++ listT c X (Y + p2 (((m : Int) + 1).toNat - 1)) ++ listT d (X + p2 (((m : Int) + 1).toNat - 1)) (Y + p2 (((m : Int) + 1).toNat - 1)) = _
   rw [e]
  rw [el]
  have apart : ∀ {l1 l2 : List Cl} {X1 Y1 X2 Y2 : Int}, (∀ c ∈ l1, sqB X1 Y1 (p2 m) c = true) → (∀ c ∈ l2, sqB X2 Y2 (p2 m) c = true) → (X1 + p2 m ≤ X2 ∨ X2 + p2 m ≤ X1 ∨ Y1 + p2 m ≤ Y2 ∨ Y2 + p2 m ≤ Y1) → ∀ c ∈ l1, ∀ d ∈ l2, ¬ (c.x = d.x ∧ c.y = d.y) := fun h1 h2 h3 c hc d hd e => by
   have a1 := sq_iff.1 (h1 c hc)
   have a2 := sq_iff.1 (h2 d hd)
   omega
  have outOf : ∀ {l2 : List Cl} {X1 Y1 X2 Y2 : Int}, (∀ c ∈ l2, sqB X2 Y2 (p2 m) c = true) → (X1 + p2 m ≤ X2 ∨ X2 + p2 m ≤ X1 ∨ Y1 + p2 m ≤ Y2 ∨ Y2 + p2 m ≤ Y1) → ∀ c ∈ l2, sqB X1 Y1 (p2 m) c = false := fun h2 h3 c hc => by
   have a2 := sq_iff.1 (h2 c hc)
   cases hq : sqB _ _ (p2 m) c
   ·
    rfl
   ·
    have := sq_iff.1 hq
    omega
  refine ⟨⟨fun q hq => ?_, ?_⟩, fun q hq => ?_, fun x y => ?_⟩
  ·
   rcases List.mem_append.1 hq with hq | hq
   ·
    rcases List.mem_append.1 hq with hq | hq
    ·
     rcases List.mem_append.1 hq with hq | hq
     ·
      exact fa.1 q hq
     ·
      exact fb.1 q hq
    ·
     exact fc.1 q hq
   ·
    exact fd.1 q hq
  ·
   rw [List.pairwise_append, List.pairwise_append, List.pairwise_append]
   refine ⟨⟨⟨fa.2, fb.2, apart sa sb (by omega)⟩, fc.2, fun q hq => ?_⟩, fd.2, fun q hq => ?_⟩
   ·
    rcases List.mem_append.1 hq with hq | hq
    ·
     exact apart sa sc (by omega) q hq
    ·
     exact apart sb sc (by omega) q hq
   ·
    rcases List.mem_append.1 hq with hq | hq
    ·
     rcases List.mem_append.1 hq with hq | hq
     ·
      exact apart sa sd (by omega) q hq
     ·
      exact apart sb sd (by omega) q hq
    ·
     exact apart sc sd (by omega) q hq
  ·
   rw [sq_iff, p2_succ]
   rcases List.mem_append.1 hq with hq | hq
   ·
    rcases List.mem_append.1 hq with hq | hq
    ·
     rcases List.mem_append.1 hq with hq | hq
     ·
      have := sq_iff.1 (sa q hq); omega
     ·
      have := sq_iff.1 (sb q hq); omega
    ·
     have := sq_iff.1 (sc q hq); omega
   ·
    have := sq_iff.1 (sd q hq); omega
  ·
   rw [List.append_assoc, List.append_assoc, lk_app_sq sa (fun q hq => by
    rcases List.mem_append.1 hq with hq | hq
    ·
     exact outOf sb (by omega) q hq
    ·
     rcases List.mem_append.1 hq with hq | hq
     ·
      exact outOf sc (by omega) q hq
     ·
      exact outOf sd (by omega) q hq), lk_app_sq sb (fun q hq => by
    rcases List.mem_append.1 hq with hq | hq
    ·
     exact outOf sc (by omega) q hq
    ·
     exact outOf sd (by omega) q hq), lk_app_sq sc (fun q hq => outOf sd (by omega) q hq), ka, kb, kc, kd, cell_q ha hb hc hd]
   rw [show x - (X + p2 m) = x - X - p2 m by omega, show y - (Y + p2 m) = y - Y - p2 m by omega]
   omega
theorem ofL_cells {l m : List Nd} (hl : looseB l = true) (hm : looseB m = true) {n k : Nat} (hn : n ≤ l.length) (hk : k ≤ m.length) (h : ∀ x y, cellM (den l n) x y = cellM (den m k) x y) : OfL l n = OfL m k := by
 have key : ∀ {l : List Nd} {n : Nat}, looseB l = true → n ≤ l.length → ∃ q : Nat, wfT (q : Int) (den l n) := fun {l n} hl hn => by
  cases n with
  | zero => rw [den_zero]; exact ⟨0, trivial⟩
  | succ p =>
   have hv := fit_lv (loose_fit hl (i := p) (by omega))
   refine ⟨(at_ l p).lv.toNat, ?_⟩
   have hw := wf_den hl p (by omega)
   rwa [show (((at_ l p).lv.toNat : Nat) : Int) = (at_ l p).lv by omega]
 have nat : ∀ {t : Tr} {v : Int}, wfT v t → (∀ k, t ≠ .s k) → ∃ q : Nat, wfT (q : Int) t := fun {t v} hw hs => by
  cases t with
  | e => exact ⟨0, trivial⟩
  | s k => exact absurd rfl (hs k)
  | n u a b c d =>
   have h1 := hw.1
   have h2 := hw.2.1
   exact ⟨v.toNat, by rwa [show ((v.toNat : Nat) : Int) = v by omega]⟩
 obtain ⟨q1, w1⟩ := key hl hn
 obtain ⟨q2, w2⟩ := key hm hk
 obtain ⟨u1, a1, b1, c1⟩ := ofL_tree hl hn
 obtain ⟨u2, a2, b2, c2⟩ := ofL_tree hm hk
 obtain ⟨p1, d1⟩ := nat a1 b1
 obtain ⟨p2', d2⟩ := nat a2 b2
 have e : shrT (den l n) = shrT (den m k) := cells_one d1 d2 b1 b2 c1 c2 fun x y => by rw [shr_cells w1, shr_cells w2]; exact h x y
 unfold OfL
 rw [e]
end Go.Proofs.YtajgfmfopkggdaaGreat

namespace Go.Proofs.YtajgfmfopkggdaaGreat
open Nds
theorem mem_of_lk : ∀ {l : List Cl} {x y : Int}, lk l x y ≠ 0 → ∃ c ∈ l, c.x = x ∧ c.y = y ∧ c.s = lk l x y
 | [], _, _, h => absurd rfl h
 | c :: l, x, y, h => by
  by_cases hc : c.x = x ∧ c.y = y
  ·
   exact ⟨c, by simp, hc.1, hc.2, by unfold lk; rw [if_pos hc]⟩
  ·
   have e : lk (c :: l) x y = lk l x y := by
    conv => lhs; unfold lk
    rw [if_neg hc]
   rw [e] at h ⊢
   obtain ⟨d, hd, h1⟩ := mem_of_lk h
   exact ⟨d, by simp [hd], h1⟩
theorem fine_lk : ∀ {l : List Cl}, l.Pairwise (fun a b => ¬ (a.x = b.x ∧ a.y = b.y)) → ∀ {c : Cl}, c ∈ l → lk l c.x c.y = c.s
 | a :: l, h, c, hc => by
  obtain ⟨h1, h2⟩ := List.pairwise_cons.1 h
  unfold lk
  rcases List.mem_cons.1 hc with rfl | hc
  ·
   rw [if_pos ⟨rfl, rfl⟩]
  ·
   rw [if_neg (h1 c hc), fine_lk h2 hc]
theorem fine_perm {l m : List Cl} (hl : Fine l) (hm : Fine m) (h : ∀ x y, lk l x y = lk m x y) : l.Perm m := by
 have nd : ∀ {l : List Cl}, Fine l → l.Nodup := fun h => h.2.imp fun {a b} h e => h ⟨congrArg Cl.x e, congrArg Cl.y e⟩
 have key : ∀ {l m : List Cl} {c : Cl}, Fine l → Fine m → (∀ x y, lk l x y = lk m x y) → c ∈ l → c ∈ m := fun {l m c} hl hm h hc => by
  have h1 := fine_lk hl.2 hc
  rw [h] at h1
  have h0 := (hl.1 c hc).1
  obtain ⟨d, hd, e1, e2, e3⟩ := mem_of_lk (l := m) (x := c.x) (y := c.y) (by rw [h1]; omega)
  have : c = d := Cl.ext' e1.symm e2.symm (by rw [e3, h1])
  rw [this]
  exact hd
 exact (List.perm_ext_iff_of_nodup (nd hl) (nd hm)).2 fun c => ⟨key hl hm h, key hm hl fun x y => (h x y).symm⟩
theorem lastS_unlike {l : List Cl} (h : l.Pairwise (fun a b => ¬ (a.x = b.x ∧ a.y = b.y))) (x y : Int) : lastS l x y = lk l x y := by
 suffices hk : ∀ k, k ≤ l.length → lastS (l.take k) x y = lk (l.take k) x y by
  have := hk l.length (Nat.le_refl _)
  rwa [List.take_of_length_le (Nat.le_refl _)] at this
 intro k
 induction k with
 | zero => exact fun _ => rfl
 | succ k ih =>
  intro hk
  rw [List.take_succ_eq_append_getElem (by omega), lastS_snoc, ih (by omega), lk_app]
  have hp : ∀ d ∈ l.take k, ¬ (d.x = l[k].x ∧ d.y = l[k].y) := fun d hd => by
   obtain ⟨i, hi, rfl⟩ := List.getElem_of_mem hd
   rw [List.length_take] at hi
   rw [List.getElem_take]
   exact List.pairwise_iff_getElem.1 h i k _ _ (by omega)
  by_cases hc : l[k].x = x ∧ l[k].y = y
  ·
   rw [if_pos hc, if_neg (fun ⟨d, hd, e⟩ => hp d hd ⟨e.1.trans hc.1.symm, e.2.trans hc.2.symm⟩)]
   unfold lk
   rw [if_pos hc]
  ·
   rw [if_neg hc]
   by_cases hd : ∃ d ∈ l.take k, d.x = x ∧ d.y = y
   ·
    rw [if_pos hd]
   ·
    rw [if_neg hd, lk_none fun d hd' e => hd ⟨d, hd', e⟩]
    unfold lk
    rw [if_neg hc]
    rfl
theorem lastF_srt (l : List Cl) : Srt (lastF l) := (lastF_spec l).1
theorem lastF_lk (l : List Cl) (x y : Int) : lk (lastF l) x y = lastS l x y := (lastF_spec l).2.1 x y
theorem lastF_fine {l : List Cl} (h : ∀ c ∈ l, 0 ≤ c.s ∧ c.s ≤ 255) : Fine (lastF l) :=
 srt_fine (lastF_srt l) fun c hc => by
  obtain ⟨h1, h2⟩ := (lastF_spec l).2.2 c hc
  have := h c h2
  omega
theorem lastF_len {l : List Cl} (h : Fine l) : (lastF l).length = l.length :=
 (fine_perm (lastF_fine fun c hc => by have := h.1 c hc; omega) h fun x y => by rw [lastF_lk, lastS_unlike h.2]).length_eq
def QuadOf (L : List Cl) (out : List Nd) : Prop :=
 ∃ (t : Tr) (n : Nat), wfT (n : Int) t ∧ (∀ k, t ≠ .s k) ∧ holT t = false ∧ out = (enc t []).1 ∧ ∀ x y, cellM t x y = lk L x y
theorem quadOf_one {L M : List Cl} {a b : List Nd} (h : QuadOf L a) (k : QuadOf M b) (e : ∀ x y, lk L x y = lk M x y) : a = b := by
 obtain ⟨t, n, h1, h2, h3, rfl, h5⟩ := h
 obtain ⟨u, m, k1, k2, k3, rfl, k5⟩ := k
 rw [cells_one h1 k1 h2 k2 h3 k3 fun x y => by rw [h5, k5, e]]
theorem QuadOf.of {L M : List Cl} {a : List Nd} (h : QuadOf L a) (e : ∀ x y, lk L x y = lk M x y) : QuadOf M a := by
 obtain ⟨t, n, h1, h2, h3, h4, h5⟩ := h
 exact ⟨t, n, h1, h2, h3, h4, fun x y => by rw [h5, e]⟩
theorem nat_wf {t : Tr} {v : Int} (hw : wfT v t) (hs : ∀ k, t ≠ .s k) : ∃ q : Nat, wfT (q : Int) t := by
 cases t with
 | e => exact ⟨0, trivial⟩
 | s k => exact absurd rfl (hs k)
 | n u a b c d =>
  have h1 := hw.1
  have h2 := hw.2.1
  exact ⟨v.toNat, by rwa [show ((v.toNat : Nat) : Int) = v by omega]⟩
theorem ofL_quadOf {l : List Nd} (hl : looseB l = true) {n : Nat} (hn : n ≤ l.length) {L : List Cl} (h : ∀ x y, cellM (den l n) x y = lk L x y) : QuadOf L (OfL l n) := by
 obtain ⟨v, h1, h2, h3⟩ := ofL_tree hl hn
 obtain ⟨q, hq⟩ := nat_wf h1 h2
 obtain ⟨u, hu⟩ := wf_denn hl hn
 obtain ⟨p, hp⟩ := nat_wf hu (fun k => den_not_s)
 exact ⟨_, q, hq, h2, h3, rfl, fun x y => by rw [shr_cells hp]; exact h x y⟩
theorem QuadOf.good {L : List Cl} {out : List Nd} (h : QuadOf L out) : GoodL out := by
 obtain ⟨t, n, h1, h2, h3, rfl, h5⟩ := h
 exact (enc_spec _ _ [] h1 good_nil).good
theorem QuadOf.quad {L : List Cl} {out : List Nd} (h : QuadOf L out) : quadB out = true := by
 obtain ⟨t, n, h1, h2, h3, rfl, h5⟩ := h
 exact quad_of_tree h1 h2 h3
theorem QuadOf.den {L : List Cl} {out : List Nd} (h : QuadOf L out) (x y : Int) : cellM (den out out.length) x y = lk L x y := by
 obtain ⟨t, n, h1, h2, h3, rfl, h5⟩ := h
 rw [← h5]
 by_cases he : t = .e
 ·
  subst he
  show cellM (Nds.den [] 0) x y = _
  rw [den_zero]
 ·
  rw [(enc_root h1 he h2).2.2]
def cornL (l : List Nd) : List Cl := listT (den l l.length) (-(p2 ((at_ l (l.length - 1)).lv.toNat - 1))) (-(p2 ((at_ l (l.length - 1)).lv.toNat - 1)))
theorem corn_spec {l : List Nd} (hl : looseB l = true) : Fine (cornL l) ∧ ∀ x y, lk (cornL l) x y = cellM (den l l.length) x y := by
 unfold cornL
 rcases Nat.eq_zero_or_pos l.length with h0 | h0
 ·
  rw [h0, den_zero]
  exact ⟨⟨fun c hc => absurd hc (List.not_mem_nil), List.Pairwise.nil⟩, fun x y => rfl⟩
 ·
  obtain ⟨p, hp⟩ : ∃ p, l.length = p + 1 := ⟨l.length - 1, by omega⟩
  rw [hp, Nat.add_sub_cancel]
  have hw := wf_den hl p (by omega)
  have hv := fit_lv (loose_fit hl (i := p) (by omega))
  obtain ⟨n, hn⟩ : ∃ n : Nat, (at_ l p).lv = (n : Int) := ⟨_, (Int.toNat_of_nonneg (by omega)).symm⟩
  rw [hn] at hw ⊢
  rw [Int.toNat_natCast]
  obtain ⟨h1, h2, h3⟩ := listT_spec (den l (p + 1)) n (-(p2 (n - 1))) (-(p2 (n - 1))) hw
  refine ⟨h1, fun x y => ?_⟩
  rw [h3]
  unfold cellM
  generalize den l (p + 1) = t at hw
  cases t with
  | e => rfl
  | s k =>
   have := hw.1
   omega
  | n v a b c d =>
   have e : v = (n : Int) := hw.1.symm
   subst e
   show cellC _ _ _ = cellC _ (x + p2 ((n : Int).toNat - 1)) (y + p2 ((n : Int).toNat - 1))
   rw [Int.toNat_natCast, show x - -(p2 (n - 1)) = x + p2 (n - 1) by omega, show y - -(p2 (n - 1)) = y + p2 (n - 1) by omega]
def cellsL (l : List Nd) : List Cl := lastF (cornL l)
theorem cells_lk {l : List Nd} (hl : looseB l = true) (x y : Int) : lk (cellsL l) x y = cellM (den l l.length) x y := by
 unfold cellsL
 rw [lastF_lk, lastS_unlike (corn_spec hl).1.2, (corn_spec hl).2]
theorem cells_srt (l : List Nd) : Srt (cellsL l) := lastF_srt _
theorem cells_fine {l : List Nd} (hl : looseB l = true) : Fine (cellsL l) := lastF_fine fun c hc => by
 have := (corn_spec hl).1.1 c hc
 omega
theorem cells_len {l : List Nd} (hl : looseB l = true) : (cellsL l).length = countT (den l l.length) := by
 unfold cellsL
 rw [lastF_len (corn_spec hl).1]
 unfold cornL
 exact listT_len _ _ _
theorem QuadOf.cells {L : List Cl} {out : List Nd} (h : QuadOf L out) (hs : Srt L) (h0 : ∀ c ∈ L, c.s ≠ 0) : cellsL out = L :=
 srt_uniq (cells_srt out) hs (fun c hc => by have := (cells_fine h.good.1).1 c hc; omega) h0 fun x y => by rw [cells_lk h.good.1, h.den]
theorem quadOf_self {l : List Nd} (hl : looseB l = true) : QuadOf (cellsL l) (OfL l l.length) := ofL_quadOf hl (Nat.le_refl _) fun x y => (cells_lk hl x y).symm
end Go.Proofs.YtajgfmfopkggdaaGreat

namespace Go.Proofs.YtajgfmfopkggdaaGreat
open Nds
theorem insC_len : ∀ (l : List Cl) (c : Cl), (insC l c).length ≤ l.length + 1
 | [], c => Nat.le_refl _
 | a :: l, c => by
  have h := insC_len l c
  unfold insC
  split
  ·
   rw [List.length_cons, List.length_cons]
   omega
  ·
   split
   ·
    rw [List.length_cons, List.length_cons]
    omega
   ·
    rw [List.length_cons, List.length_cons]
    omega
theorem insF_len : ∀ (l m : List Cl), (l.foldl insC m).length ≤ m.length + l.length
 | [], m => Nat.le_refl _
 | c :: l, m => by
  have h := insF_len l (insC m c)
  have h2 := insC_len m c
  rw [List.foldl_cons, List.length_cons]
  omega
theorem lastF_le (l : List Cl) : (lastF l).length ≤ l.length := by
 unfold lastF insAll
 have h := insF_len l []
 have h2 := List.length_filter_le (fun c : Cl => c.s != 0) (l.foldl insC [])
 simp only [List.length_nil, Nat.zero_add] at h
 exact Nat.le_trans h2 h
theorem count_pos : ∀ (t : Tr) (n : Nat), wfT (n : Int) t → t ≠ .e → 1 ≤ countT t
 | .e, _, _, h => absurd rfl h
 | .s k, _, _, _ => Nat.le_refl 1
 | .n v a b c d, n, h, _ => by
  have hv := h.1
  obtain ⟨m, rfl, hv2, ha, hb, hc, hd, _⟩ := wf_n h
  obtain ⟨i, hi, hne⟩ := wf_all h
  show 1 ≤ countT a + countT b + countT c + countT d
  match i, hi with
  | 0, _ => have := count_pos a m ha hne; omega
  | 1, _ => have := count_pos b m hb hne; omega
  | 2, _ => have := count_pos c m hc hne; omega
  | 3, _ => have := count_pos d m hd hne; omega
theorem add_le (out : List Nd) (x : Nd) : (add out x).1.length ≤ out.length + 1 := by
 unfold add
 split
 ·
  simp
 ·
  exact Nat.le_succ _
theorem enc_cnt : ∀ (t : Tr) (n : Nat) (out : List Nd), wfT (n : Int) t → (enc t out).1.length ≤ out.length + n * countT t
 | .e, n, out, _ => Nat.le_add_right _ _
 | .s k, n, out, _ => Nat.le_add_right _ _
 | .n v a b c d, n, out, h => by
  have hp : 1 ≤ countT a + countT b + countT c + countT d := count_pos (.n v a b c d) n h (by simp)
  obtain ⟨m, rfl, hv2, ha, hb, hc, hd, _⟩ := wf_n h
  have h0 := enc_cnt a m out ha
  have h1 := enc_cnt b m (outK (Tr.n v a b c d).q out 1) hb
  have h2 := enc_cnt c m (outK (Tr.n v a b c d).q out 2) hc
  have h3 := enc_cnt d m (outK (Tr.n v a b c d).q out 3) hd
  have h4 := add_le (outK (Tr.n v a b c d).q out 4) (topN (Tr.n v a b c d).q out v)
  have e1 : (outK (Tr.n v a b c d).q out 1).length = (enc a out).1.length := rfl
  have e2 : (outK (Tr.n v a b c d).q out 2).length = (enc b (outK (Tr.n v a b c d).q out 1)).1.length := rfl
  have e3 : (outK (Tr.n v a b c d).q out 3).length = (enc c (outK (Tr.n v a b c d).q out 2)).1.length := rfl
  have e4 : (outK (Tr.n v a b c d).q out 4).length = (enc d (outK (Tr.n v a b c d).q out 3)).1.length := rfl
  rw [enc_n]
  show (add (outK (Tr.n v a b c d).q out 4) (topN (Tr.n v a b c d).q out v)).1.length ≤ out.length + (m + 1) * (countT a + countT b + countT c + countT d)
  rw [Nat.add_mul, Nat.one_mul, Nat.mul_add, Nat.mul_add, Nat.mul_add]
  omega
theorem QuadOf.lenF {X : List Cl} {out : List Nd} (h : QuadOf (lastF X) out) : countT (Nds.den out out.length) = (lastF X).length ∧ out.length ≤ 1329 * (lastF X).length := by
 have h1 := cells_len h.good.1
 rw [h.cells (lastF_srt X) fun c hc => ((lastF_spec X).2.2 c hc).1] at h1
 refine ⟨h1.symm, ?_⟩
 obtain ⟨t, n, w1, w2, w3, rfl, w5⟩ := h
 by_cases he : t = .e
 ·
  subst he
  exact Nat.zero_le _
 ·
  obtain ⟨_, _, hd⟩ := enc_root w1 he w2
  rw [hd] at h1
  have h2 := enc_cnt t n [] w1
  rw [h1]
  have hn : n ≤ 1329 := by
   cases t with
   | e => exact absurd rfl he
   | s k => exact absurd rfl (w2 k)
   | n v a b c d =>
    have := w1.1
    have := w1.2.2.1
    omega
  have h3 := Nat.mul_le_mul_right (countT t) hn
  rw [List.length_nil, Nat.zero_add] at h2
  exact Nat.le_trans h2 h3
end Go.Proofs.YtajgfmfopkggdaaGreat

namespace Go.Proofs.YtajgfmfopkggdaaGreat
open Go.RowKit Nds
def one5 : List Nd := [⟨1, 0, 0, 0, 1⟩]
def hol5 : List Nd := [⟨1, 0, 0, 0, 1⟩, ⟨2, 1, 0, 0, 0⟩]
def far5 : List Nd := [⟨1, 0, 0, 0, 1⟩, ⟨2, 0, 0, 0, 1⟩]
theorem ns_lit1 (W : World) (g : Nat) (x : Nd) (hx : x.wf) (hg : W.heap.size = g) : Ns (W.alloc (.cells #[.int .i64 x.lv, .int .i64 x.a, .int .i64 x.b, .int .i64 x.c, .int .i64 x.d] 91)) (some ⟨g, 0, none⟩) 1 [x] := by
 subst hg
 refine ⟨by simpa using hx, by simp, by simp [maxLen], fun _ => ⟨_, 0, rfl, by simp, fun i hi => ?_⟩⟩
 have h0 : i = 0 := by simpa using hi
 subst h0
 exact NdAt.new W x _
theorem ns_lit2 (W : World) (g : Nat) (x y : Nd) (hx : x.wf) (hy : y.wf) (hg : W.heap.size = g) : Ns (W.alloc (.cells #[.int .i64 x.lv, .int .i64 x.a, .int .i64 x.b, .int .i64 x.c, .int .i64 x.d, .int .i64 y.lv, .int .i64 y.a, .int .i64 y.b, .int .i64 y.c, .int .i64 y.d] 91)) (some ⟨g, 0, none⟩) 2 [x, y] := by
 subst hg
 have h := heap_alloc_new W (.cells #[.int .i64 x.lv, .int .i64 x.a, .int .i64 x.b, .int .i64 x.c, .int .i64 x.d, .int .i64 y.lv, .int .i64 y.a, .int .i64 y.b, .int .i64 y.c, .int .i64 y.d] 91)
 refine ⟨fun z hz => ?_, by simp, by simp [maxLen], fun _ => ⟨_, 0, rfl, by simp, fun i hi => ?_⟩⟩
 ·
  simp at hz
  rcases hz with rfl | rfl
  ·
   exact hx
  ·
   exact hy
 ·
  match i, hi with
  | 0, _ => exact ⟨by rw [cell_of_row _ _ _ _ _ _ h]; rfl, by rw [cell_of_row _ _ _ _ _ _ h]; rfl, by rw [cell_of_row _ _ _ _ _ _ h]; rfl, by rw [cell_of_row _ _ _ _ _ _ h]; rfl, by rw [cell_of_row _ _ _ _ _ _ h]; rfl⟩
  | 1, _ => exact ⟨by rw [cell_of_row _ _ _ _ _ _ h]; rfl, by rw [cell_of_row _ _ _ _ _ _ h]; rfl, by rw [cell_of_row _ _ _ _ _ _ h]; rfl, by rw [cell_of_row _ _ _ _ _ _ h]; rfl, by rw [cell_of_row _ _ _ _ _ _ h]; rfl⟩
def St5 (w W : World) (g : Nat) : Prop :=
 Below w.heap.size w W ∧ Ns W (some ⟨g, 0, none⟩) 1 one5 ∧ Ns W (some ⟨g + 1, 0, none⟩) 2 hol5 ∧ Ns W (some ⟨g + 1 + 1, 0, none⟩) 2 far5 ∧ w.heap.size ≤ W.heap.size
theorem St5.step {w W W' : World} {g : Nat} (s : St5 w W g) (b : Below W.heap.size W W') : St5 w W' g :=
 ⟨s.1.trans (b.mono s.1.size), s.2.1.below b, s.2.2.1.below b, s.2.2.2.1.below b, Nat.le_trans s.2.2.2.2 b.size⟩
theorem St5.alloc {w W : World} {g : Nat} (s : St5 w W g) (o : Obj) : St5 w (W.alloc o) g := s.step ((Below.refl _ W).alloc (Nat.le_refl _) o)
theorem St5.start (w : World) : St5 w (((w.alloc (.cells #[.int .i64 1, .int .i64 0, .int .i64 0, .int .i64 0, .int .i64 1] 91)).alloc (.cells #[.int .i64 1, .int .i64 0, .int .i64 0, .int .i64 0, .int .i64 1, .int .i64 2, .int .i64 1, .int .i64 0, .int .i64 0, .int .i64 0] 91)).alloc (.cells #[.int .i64 1, .int .i64 0, .int .i64 0, .int .i64 0, .int .i64 1, .int .i64 2, .int .i64 0, .int .i64 0, .int .i64 0, .int .i64 1] 91)) w.heap.size := by
 have i0 : in64 0 := in64_0
 have i1 : in64 1 := ⟨by omega, by omega⟩
 have i2 : in64 2 := ⟨by omega, by omega⟩
 have h1 := ns_lit1 w w.heap.size ⟨1, 0, 0, 0, 1⟩ ⟨i1, i0, i0, i0, i1⟩ rfl
 have b2 := (Below.refl _ (w.alloc (.cells #[.int .i64 1, .int .i64 0, .int .i64 0, .int .i64 0, .int .i64 1] 91))).alloc (Nat.le_refl _) (.cells #[.int .i64 1, .int .i64 0, .int .i64 0, .int .i64 0, .int .i64 1, .int .i64 2, .int .i64 1, .int .i64 0, .int .i64 0, .int .i64 0] 91)
 have h2 := ns_lit2 (w.alloc (.cells #[.int .i64 1, .int .i64 0, .int .i64 0, .int .i64 0, .int .i64 1] 91)) (w.heap.size + 1) ⟨1, 0, 0, 0, 1⟩ ⟨2, 1, 0, 0, 0⟩ ⟨i1, i0, i0, i0, i1⟩ ⟨i2, i1, i0, i0, i0⟩ (by simp)
 have b3 := (Below.refl _ ((w.alloc (.cells #[.int .i64 1, .int .i64 0, .int .i64 0, .int .i64 0, .int .i64 1] 91)).alloc (.cells #[.int .i64 1, .int .i64 0, .int .i64 0, .int .i64 0, .int .i64 1, .int .i64 2, .int .i64 1, .int .i64 0, .int .i64 0, .int .i64 0] 91))).alloc (Nat.le_refl _) (.cells #[.int .i64 1, .int .i64 0, .int .i64 0, .int .i64 0, .int .i64 1, .int .i64 2, .int .i64 0, .int .i64 0, .int .i64 0, .int .i64 1] 91)
 have h3 := ns_lit2 ((w.alloc (.cells #[.int .i64 1, .int .i64 0, .int .i64 0, .int .i64 0, .int .i64 1] 91)).alloc (.cells #[.int .i64 1, .int .i64 0, .int .i64 0, .int .i64 0, .int .i64 1, .int .i64 2, .int .i64 1, .int .i64 0, .int .i64 0, .int .i64 0] 91)) (w.heap.size + 1 + 1) ⟨1, 0, 0, 0, 1⟩ ⟨2, 0, 0, 0, 1⟩ ⟨i1, i0, i0, i0, i1⟩ ⟨i2, i0, i0, i0, i1⟩ (by simp)
 exact ⟨(((Below.refl _ w).alloc (Nat.le_refl _) _).alloc (by simp) _).alloc (by simp; omega) _, (h1.below b2).below b3, h2.below b3, h3, by simp; omega⟩
end Go.Proofs.YtajgfmfopkggdaaGreat

namespace Go.Proofs.YtajgfmfopkggdaaGreat
open Go.RowKit Nds
theorem Tryz.infoN : (Tryz.prog.info? 91).map (fun i => (i.zero, i.size, i.bytes)) = some (some (ndv nd0), 5, 40) := by kernel_rfl
def ndc (x : Nd) : List Value := [.int .i64 x.lv, .int .i64 x.a, .int .i64 x.b, .int .i64 x.c, .int .i64 x.d]
def ndcs (l : List Nd) : List Value := l.flatMap ndc
theorem ndcs_len (l : List Nd) : (ndcs l).length = l.length * 5 := by
 unfold ndcs
 induction l with
 | nil => rfl
 | cons x l ih =>
  rw [List.flatMap_cons, List.length_append, ih, List.length_cons]
  show 5 + _ = _
  omega
theorem ndcs_app (l m : List Nd) : ndcs (l ++ m) = ndcs l ++ ndcs m := by
 unfold ndcs
 rw [List.flatMap_append]
theorem ndcs_at : ∀ (l : List Nd) (i j : Nat), i < l.length → j < 5 → (ndcs l)[i * 5 + j]? = (ndc (at_ l i))[j]?
 | [], i, _, hi, _ => by simp at hi
 | x :: l, 0, j, _, hj => by
  show (ndc x ++ ndcs l)[0 * 5 + j]? = _
  rw [List.getElem?_append_left (by show _ < 5; omega), show 0 * 5 + j = j by omega]
  rfl
 | x :: l, i + 1, j, hi, hj => by
  show (ndc x ++ ndcs l)[(i + 1) * 5 + j]? = _
  rw [List.getElem?_append_right (by show 5 ≤ _; omega), show (i + 1) * 5 + j - (ndc x).length = i * 5 + j by show _ - 5 = _; omega, ndcs_at l i j (by simpa using hi) hj]
  rfl
theorem ndcs_one (l : List Nd) : ∀ u ∈ ndcs l, u.oneCell' = true := fun u hu => by
 obtain ⟨x, _, hx⟩ := List.mem_flatMap.1 hu
 simp only [ndc, List.mem_cons, List.not_mem_nil, or_false] at hx
 rcases hx with rfl | rfl | rfl | rfl | rfl <;> rfl
theorem Ns.cells {w : World} {A : Option Addr} {c : Nat} {l : List Nd} (h : Ns w A c l) {ad : Addr} (e : A = some ad) : ∀ j u, (ndcs l)[j]? = some u → w.cell? (ad.add j) = some u := by
 intro j u hu
 have hj := (List.getElem?_eq_some_iff.1 hu).1
 rw [ndcs_len] at hj
 obtain ⟨b, off, e2, _, hc⟩ := h.at_ (by omega)
 rw [e] at e2
 cases e2
 have hd := hc (j / 5) (by omega)
 have hs : j = j / 5 * 5 + j % 5 := by omega
 rw [hs, ndcs_at l (j / 5) (j % 5) (by omega) (by omega)] at hu
 obtain ⟨h1, h2, h3, h4, h5⟩ := hd
 have hlt : j % 5 < 5 := Nat.mod_lt _ (by omega)
 have hadd : (⟨b, off, none⟩ : Addr).add j = ⟨b, off + j, none⟩ := by simp [Addr.add]
 rw [hadd]
 generalize hq : j / 5 = q at *
 generalize hr : j % 5 = r at *
 match r, hlt with
 | 0, _ => rw [show off + j = off + q * 5 by omega, h1]; exact hu
 | 1, _ => rw [show off + j = off + q * 5 + 1 by omega, h2]; exact hu
 | 2, _ => rw [show off + j = off + q * 5 + 2 by omega, h3]; exact hu
 | 3, _ => rw [show off + j = off + q * 5 + 3 by omega, h4]; exact hu
 | 4, _ => rw [show off + j = off + q * 5 + 4 by omega, h5]; exact hu
def OwnN (w : World) (base : Nat) (v : Value) (l : List Nd) : Prop := (∀ x ∈ l, x.wf) ∧ w.ownsRow base 91 5 v l.length (ndcs l)
theorem OwnN.shape {w : World} {base : Nat} {v : Value} {l : List Nd} (h : OwnN w base v l) : ∃ A c, v = .slice A l.length c ∧ Ns w A c l ∧ ((A = none → c = 0) ∧ ∀ a, A = some a → base ≤ a.block) := by
 rcases h.2.2 with ⟨h', hn⟩ | ⟨g, cap, cur, h', hb, hg, hnc, hcm, hcs, htake⟩
 ·
  exact ⟨none, 0, by rw [h', hn], ⟨h.1, by omega, by simp [maxLen], fun h => by omega⟩, (fun _ => rfl), (fun a e => by cases e)⟩
 ·
  refine ⟨some ⟨g, 0, none⟩, cap, h', ⟨h.1, hnc, hcm, fun hn => ⟨g, 0, rfl, ?_, fun i hi => ?_⟩⟩, (fun e => by cases e), (fun a e => by cases e; exact hb)⟩
  ·
   rcases Nat.lt_or_ge g w.heap.size with hlt | hge
   ·
    exact hlt
   ·
    rw [Array.getElem?_eq_none hge] at hg; cases hg
  ·
   have hcell : ∀ j, j < 5 → w.cell? ⟨g, i * 5 + j, none⟩ = (ndc (at_ l i))[j]? := by
    intro j hj
    have hlt : i * 5 + j < l.length * 5 := by omega
    rw [cell_of_row w g (i * 5 + j) cur _ (0, 0) hg, ← ndcs_at l i j hi hj, ← htake, List.getElem?_take, if_pos hlt]
    simp
   rw [Nat.zero_add]
   exact ⟨hcell 0 (by omega), hcell 1 (by omega), hcell 2 (by omega), hcell 3 (by omega), hcell 4 (by omega)⟩
theorem OwnN.start (w : World) : OwnN (w.alloc (.cells #[] 91)) w.heap.size (.slice (some ⟨w.heap.size, 0, none⟩) 0 0) [] :=
 ⟨by simp, World.ownsRow_made w #[] 0 (Nat.le_refl _) (by simp [maxLen]) rfl⟩
theorem run_append_nodes (w : World) (base : Nat) (v : Value) (xs ys : List Nd) (ty : TypeId) (A : Option Addr) (m c : Nat) (how : OwnN w base v xs) (hN : Ns w A c ys) (hm : ys.length = m) (hA : A = none → c = 0) (hs : xs.length + m ≤ 1000000) (hb : base ≤ w.heap.size) :
  ∃ v' w', (Builtin.append_ #[24, 24] ty #[v, .slice A m c]).run Tryz.prog w = .ok v' w' ∧ OwnN w' base v' (xs ++ ys) ∧ w.grownBy w' v.ownBlock ∧ (v'.ownBlock = v.ownBlock ∨ v'.ownBlock = some w.heap.size) := by
 obtain ⟨i0, hi, hz0, hz1, hz2⟩ := info_parts Tryz.infoN
 have hwf : ∀ x ∈ xs ++ ys, x.wf := fun x hx => by
  rcases List.mem_append.1 hx with h | h
  ·
   exact how.1 x h
  ·
   exact hN.1 x h
 cases A with
 | none =>
  have hc := hA rfl
  have hy : ys = [] := by
   rcases Nat.eq_zero_or_pos ys.length with h | h
   ·
    exact List.eq_nil_of_length_eq_zero h
   ·
    obtain ⟨b, off, e, _⟩ := hN.at_ h
    cases e
  subst hy
  subst hc
  subst hm
  refine ⟨v, w, run_append_owned_none (P := Tryz.prog) (w := w) base _ ty 91 i0 5 Tryz.underlying24 hi v _ _ how.2, ?_, ⟨rfl, rfl, rfl, Nat.le_refl _, fun _ _ _ => rfl⟩, .inl rfl⟩
  rw [List.append_nil]
  exact how
 | some ad =>
  obtain ⟨v', w', hrun, h2, h3, _, h5⟩ := run_append_own_at (P := Tryz.prog) w base 24 ty 91 i0 (ndv nd0) 5 40 Tryz.underlying24 hi hz0 hz1 hz2 rfl (by omega) v xs.length (ndcs xs) how.2 ad m c (ndcs ys) (by rw [ndcs_len, hm]) (hN.cells rfl) (ndcs_one ys) (by simp only [maxLen]; omega) (by omega) hb
  refine ⟨v', w', hrun, ⟨hwf, ?_⟩, h3, h5⟩
  rw [ndcs_app, List.length_append, hm]
  exact h2
theorem wpList_append_nodes (w : World) {ops : Array Oper} {rest : List Oper} {o : Oper} {a : Act} {Q : Exit → Act → World → Prop} (hg : o.guard = none) (s x : Operand)
  (hop : o.op = Op.call { callee := Callee.builtin Builtin.append, args := #[s, x], argTypes := #[24, 24] }) (base : Nat) (v : Value) (xs ys : List Nd) (A : Option Addr) (m c : Nat)
  (hs : a.eval s = v) (hx : a.eval x = .slice A m c) (how : OwnN w base v xs) (hN : Ns w A c ys) (hm : ys.length = m) (hA : A = none → c = 0) (hsz : xs.length + m ≤ 1000000) (hb : base ≤ w.heap.size)
  (hK : ∀ v' w', OwnN w' base v' (xs ++ ys) → w.grownBy w' v.ownBlock → (v'.ownBlock = v.ownBlock ∨ v'.ownBlock = some w.heap.size) → wpList Tryz.prog ops Q rest (a.put o.dst v') w') :
  wpList Tryz.prog ops Q (o :: rest) a w := by
 refine wpList_plain hg fun K hK' => ?_
 obtain ⟨v', w', hrun, h1, h2, h3⟩ := run_append_nodes w base v xs ys o.type A m c how hN hm hA hsz hb
 unfold Oper.wp execOp
 simp only [hop, resolve, invoke, builtin, Sem.run_bind, Sem.run_pure, Result.andThen_ok, List.map_toArray, List.map_cons, List.map_nil, hs, hx, hrun]
 exact hK' _ _ (hK v' w' h1 h2 h3)
theorem Ns.gbr {w w' : World} {A : Option Addr} {c : Nat} {l : List Nd} {row : Option Nat} (h : Ns w A c l) (hg : w.grownBy w' row) (hA : ∀ a, A = some a → some a.block ≠ row) : Ns w' A c l :=
 ⟨h.1, h.2.1, h.2.2.1, fun hn => by
  obtain ⟨b, off, e, hlt, hc⟩ := h.2.2.2 hn
  exact ⟨b, off, e, Nat.lt_of_lt_of_le hlt hg.size, fun i hi => (hc i hi).below (hg.block b hlt (hA _ e))⟩⟩
theorem OwnN.gbr {w w' : World} {base : Nat} {v : Value} {l : List Nd} {row : Option Nat} (h : OwnN w base v l) (hg : w.grownBy w' row) (hv : v.ownBlock = none ∨ v.ownBlock ≠ row) : OwnN w' base v l := ⟨h.1, h.2.kept hg hv⟩
theorem OwnN.alloc {w : World} {base : Nat} {v : Value} {l : List Nd} (h : OwnN w base v l) (o : Obj) : OwnN (w.alloc o) base v l := ⟨h.1, h.2.alloc o⟩
theorem OwnN.lt {w : World} {base : Nat} {v : Value} {l : List Nd} (h : OwnN w base v l) : ∀ k, v.ownBlock = some k → base ≤ k ∧ k < w.heap.size := h.2.lt
theorem Ns.rest {w : World} {b off c : Nat} {l : List Nd} (h : Ns w (some ⟨b, off, none⟩) c l) {k : Nat} (hk : k ≤ l.length) : Ns w (some ⟨b, off + k * 5, none⟩) (c - k) (l.drop k) := by
 have hlc := h.2.1
 refine ⟨fun x hx => h.1 x (List.mem_of_mem_drop hx), by rw [List.length_drop]; omega, by have := h.2.2.1; omega, fun hn => ?_⟩
 rw [List.length_drop] at hn
 obtain ⟨b2, off2, e, hlt, hc⟩ := h.at_ (by omega)
 cases e
 refine ⟨b, off + k * 5, rfl, hlt, fun i hi => ?_⟩
 rw [List.length_drop] at hi
 have e1 : Nds.at_ (l.drop k) i = Nds.at_ l (k + i) := by
  unfold Nds.at_
  rw [List.getElem?_drop]
 rw [e1, show off + k * 5 + i * 5 = off + (k + i) * 5 by omega]
 exact hc (k + i) (by omega)
def Sn (w W : World) (L : List (Option Addr × Nat × List Nd)) : Prop := Below w.heap.size w W ∧ ∀ t ∈ L, Ns W t.1 t.2.1 t.2.2
theorem Sn.start (w : World) : Sn w w [] := ⟨Below.refl _ _, by simp⟩
theorem Sn.get {w W : World} {L : List (Option Addr × Nat × List Nd)} (s : Sn w W L) {A : Option Addr} {c : Nat} {l : List Nd} (h : (A, c, l) ∈ L) : Ns W A c l := s.2 _ h
theorem Sn.step {w W W' : World} {L : List (Option Addr × Nat × List Nd)} (s : Sn w W L) (b : Below W.heap.size W W') : Sn w W' L :=
 ⟨s.1.trans (b.mono s.1.size), fun t ht => (s.2 t ht).below b⟩
theorem Sn.add {w W : World} {L : List (Option Addr × Nat × List Nd)} (s : Sn w W L) {A : Option Addr} {c : Nat} {l : List Nd} (h : Ns W A c l) : Sn w W ((A, c, l) :: L) :=
 ⟨s.1, fun t ht => by
  rcases List.mem_cons.1 ht with rfl | ht
  ·
   exact h
  ·
   exact s.2 t ht⟩
theorem Sn.alloc {w W : World} {L : List (Option Addr × Nat × List Nd)} (s : Sn w W L) (o : Obj) : Sn w (W.alloc o) L := s.step ((Below.refl _ W).alloc (Nat.le_refl _) o)
end Go.Proofs.YtajgfmfopkggdaaGreat

namespace Go.Proofs.YtajgfmfopkggdaaGreat
open Go.RowKit Nds
structure Ky (P : Nat → Prop) (w w' : World) : Prop where
 os : w'.os = w.os
 tape : w'.tape = w.tape
 output : w'.output = w.output
 size : w.heap.size ≤ w'.heap.size
 block : ∀ k, k < w.heap.size → ¬ P k → w'.heap[k]? = w.heap[k]?
theorem Ky.refl (P : Nat → Prop) (w : World) : Ky P w w := ⟨rfl, rfl, rfl, Nat.le_refl _, fun _ _ _ => rfl⟩
theorem Ky.trans {P Q : Nat → Prop} {a b c : World} (h : Ky P a b) (k : Ky Q b c) (hQ : ∀ i, i < a.heap.size → Q i → P i) : Ky P a c :=
 ⟨k.os.trans h.os, k.tape.trans h.tape, k.output.trans h.output, Nat.le_trans h.size k.size, fun i hi hn => (k.block i (Nat.lt_of_lt_of_le hi h.size) (fun hq => hn (hQ i hi hq))).trans (h.block i hi hn)⟩
theorem Ky.gb {P : Nat → Prop} {a b c : World} {r : Option Nat} (h : Ky P a b) (k : b.grownBy c r) (hr : ∀ i, i < a.heap.size → r = some i → P i) : Ky P a c :=
 ⟨k.os.trans h.os, k.tape.trans h.tape, k.output.trans h.output, Nat.le_trans h.size k.size, fun i hi hn => (k.block i (Nat.lt_of_lt_of_le hi h.size) (fun hq => hn (hr i hi hq.symm))).trans (h.block i hi hn)⟩
theorem Ky.alloc {P : Nat → Prop} {a b : World} (h : Ky P a b) (o : Obj) : Ky P a (b.alloc o) := h.gb (World.grownBy_alloc b o none) (fun _ _ e => by cases e)
theorem Ky.below {P : Nat → Prop} {a b c : World} (h : Ky P a b) (k : Below b.heap.size b c) : Ky P a c :=
 ⟨k.os.trans h.os, k.tape.trans h.tape, k.output.trans h.output, Nat.le_trans h.size k.size, fun i hi hn => (k.block i (Nat.lt_of_lt_of_le hi h.size)).trans (h.block i hi hn)⟩
theorem Ky.set {P : Nat → Prop} {a b : World} (h : Ky P a b) (p : Addr) (hp : p.block < a.heap.size → P p.block) (u : Value) : Ky P a (b.setCell p u) :=
 ⟨h.os, h.tape, h.output, by simpa [World.setCell] using h.size, fun i hi hn => (Below.heap_setCell _ _ _ _ (fun e => hn (by subst e; exact hp hi))).trans (h.block i hi hn)⟩
theorem Ky.to {P : Nat → Prop} {a b : World} (h : Ky P a b) {B : Nat} (hB : B ≤ a.heap.size) (hP : ∀ k, P k → B ≤ k) : Below B a b :=
 ⟨h.os, h.tape, h.output, h.size, fun k hk => h.block k (Nat.lt_of_lt_of_le hk hB) (fun hp => Nat.not_lt.2 (hP k hp) hk)⟩
theorem Ky.nd {P : Nat → Prop} {w w' : World} (h : Ky P w w') {b o : Nat} {x : Nd} (hx : NdAt w b o x) (hb : b < w.heap.size) (hp : ¬ P b) : NdAt w' b o x := hx.below (h.block b hb hp)
def mix (x y : Nd) (k : Nat) : Nd := ⟨x.lv, if 0 < k then y.a else x.a, if 1 < k then y.b else x.b, if 2 < k then y.c else x.c, if 3 < k then y.d else x.d⟩
theorem mix_four {x y : Nd} (h : x.lv = y.lv) : mix x y 4 = y := by
 unfold mix
 rw [h]
 rfl
theorem mix_kid (x y : Nd) (k : Nat) {i : Nat} (hi : i < 4) : (mix x y k).kid i = if i < k then y.kid i else x.kid i := by
 match i, hi with
 | 0, _ => rfl
 | 1, _ => rfl
 | 2, _ => rfl
 | 3, _ => rfl
theorem NdAt.setKid {w : World} {b : Nat} {x y : Nd} {k : Nat} (h : NdAt w b 0 (mix x y k)) (hk : k < 4) {o : Nat} (ho : o = 1 + k) {u : Int} (hu : u = y.kid k) : NdAt (w.setCell ⟨b, o, none⟩ (.int .i64 u)) b 0 (mix x y (k + 1)) := by
 subst ho
 subst hu
 obtain ⟨h0, h1, h2, h3, h4⟩ := h
 have oth : ∀ i j : Nat, i ≠ j → (w.setCell ⟨b, i, none⟩ (.int .i64 (y.kid k))).cell? ⟨b, j, none⟩ = w.cell? ⟨b, j, none⟩ := fun i j hij => World.cell?_setCell_other _ _ _ _ (fun e => hij (by cases e; rfl))
 match k, hk with
 | 0, _ => exact ⟨(oth _ _ (by omega)).trans h0, World.cell?_setCell_same _ _ _ h1, (oth _ _ (by omega)).trans h2, (oth _ _ (by omega)).trans h3, (oth _ _ (by omega)).trans h4⟩
 | 1, _ => exact ⟨(oth _ _ (by omega)).trans h0, (oth _ _ (by omega)).trans h1, World.cell?_setCell_same _ _ _ h2, (oth _ _ (by omega)).trans h3, (oth _ _ (by omega)).trans h4⟩
 | 2, _ => exact ⟨(oth _ _ (by omega)).trans h0, (oth _ _ (by omega)).trans h1, (oth _ _ (by omega)).trans h2, World.cell?_setCell_same _ _ _ h3, (oth _ _ (by omega)).trans h4⟩
 | 3, _ => exact ⟨(oth _ _ (by omega)).trans h0, (oth _ _ (by omega)).trans h1, (oth _ _ (by omega)).trans h2, (oth _ _ (by omega)).trans h3, World.cell?_setCell_same _ _ _ h4⟩
def NdBox (w : World) (g : Nat) (x : Nd) : Prop := w.heap[g]? = some (.cells #[.int .i64 x.lv, .int .i64 x.a, .int .i64 x.b, .int .i64 x.c, .int .i64 x.d] 91)
theorem NdBox.lt {w : World} {g : Nat} {x : Nd} (h : NdBox w g x) : g < w.heap.size := (Array.getElem?_eq_some_iff.1 h).1
theorem NdBox.at_ {w : World} {g : Nat} {x : Nd} (h : NdBox w g x) : NdAt w g 0 x := by
 refine ⟨?_, ?_, ?_, ?_, ?_⟩ <;> (rw [cell_of_row w g _ _ _ (0, 0) h]; rfl)
theorem NdBox.free {w : World} {g : Nat} {x : Nd} (h : NdBox w g x) (k : Nat) : w.frozen? ⟨g, k, none⟩ = false := frozen_of_row w g k _ _ h
theorem NdBox.new (w : World) (x : Nd) : NdBox (w.alloc (.cells #[.int .i64 x.lv, .int .i64 x.a, .int .i64 x.b, .int .i64 x.c, .int .i64 x.d] 91)) w.heap.size x := heap_alloc_new w _
theorem NdBox.stay {w w' : World} {g : Nat} {x : Nd} (h : NdBox w g x) (hb : w'.heap[g]? = w.heap[g]?) : NdBox w' g x := hb.trans h
theorem NdBox.setKid {w : World} {g : Nat} {x y : Nd} {k : Nat} (h : NdBox w g (mix x y k)) (hk : k < 4) {o : Nat} (ho : o = 1 + k) {u : Int} (hu : u = y.kid k) : NdBox (w.setCell ⟨g, o, none⟩ (.int .i64 u)) g (mix x y (k + 1)) := by
 subst ho
 subst hu
 refine (heap_setCell_same w g (1 + k) _ _ _ h).trans ?_
 match k, hk with
 | 0, _ => rfl
 | 1, _ => rfl
 | 2, _ => rfl
 | 3, _ => rfl
def FrBox (w : World) (g : Nat) (x : Nd) : Prop := w.heap[g]? = some (.cells #[.int .i64 x.a, .int .i64 x.b, .int .i64 x.c, .int .i64 x.d] 89)
theorem FrBox.lt {w : World} {g : Nat} {x : Nd} (h : FrBox w g x) : g < w.heap.size := (Array.getElem?_eq_some_iff.1 h).1
theorem FrBox.at_ {w : World} {g : Nat} {x : Nd} (h : FrBox w g x) : w.cell? ⟨g, 0, none⟩ = some (.int .i64 x.a) ∧ w.cell? ⟨g, 1, none⟩ = some (.int .i64 x.b) ∧ w.cell? ⟨g, 2, none⟩ = some (.int .i64 x.c) ∧ w.cell? ⟨g, 3, none⟩ = some (.int .i64 x.d) := by
 refine ⟨?_, ?_, ?_, ?_⟩ <;> (rw [cell_of_row w g _ _ _ (0, 0) h]; rfl)
theorem FrBox.free {w : World} {g : Nat} {x : Nd} (h : FrBox w g x) (k : Nat) : w.frozen? ⟨g, k, none⟩ = false := frozen_of_row w g k _ _ h
theorem FrBox.new (w : World) (x : Nd) : FrBox (w.alloc (.cells #[.int .i64 x.a, .int .i64 x.b, .int .i64 x.c, .int .i64 x.d] 89)) w.heap.size x := heap_alloc_new w _
theorem FrBox.stay {w w' : World} {g : Nat} {x : Nd} (h : FrBox w g x) (hb : w'.heap[g]? = w.heap[g]?) : FrBox w' g x := hb.trans h
theorem FrBox.cell {w : World} {g : Nat} {x : Nd} (h : FrBox w g x) {k : Nat} (hk : k < 4) : w.cell? ⟨g, k, none⟩ = some (.int .i64 (x.kid k)) := by
 rw [cell_of_row w g _ _ _ (0, 0) h]
 match k, hk with
 | 0, _ => rfl
 | 1, _ => rfl
 | 2, _ => rfl
 | 3, _ => rfl
def OwnD (w : World) (base g n : Nat) (ds : List Nat) : Prop :=
 ds.length = n ∧ w.ownsRow base 3 1 (.slice (some ⟨g, 0, none⟩) n n) n (ds.map fun k : Nat => Value.int .i64 (k : Int))
theorem OwnD.cell {w : World} {base g n : Nat} {ds : List Nat} (h : OwnD w base g n ds) {k : Nat} (hk : k < n) : w.cell? ⟨g, k, none⟩ = some (.int .i64 ((ds.getD k 0 : Nat) : Int)) := by
 have hl : k < ds.length := by have := h.1; omega
 rw [h.2.cellAt k (by omega), List.getElem?_map, List.getD_eq_getElem?_getD, List.getElem?_eq_getElem hl]
 rfl
theorem OwnD.free {w : World} {base g n : Nat} {ds : List Nat} (h : OwnD w base g n ds) (k : Nat) : w.frozen? ⟨g, k, none⟩ = false := h.2.frozenAt k
theorem OwnD.set {w : World} {base g n : Nat} {ds : List Nat} (h : OwnD w base g n ds) (k u : Nat) : OwnD (w.setCell ⟨g, k, none⟩ (.int .i64 (u : Int))) base g n (ds.set k u) := by
 refine ⟨by simpa using h.1, ?_⟩
 rw [List.map_set]
 exact (h.2.stored k _).1
theorem madeD (n : Nat) : (madeCells (Value.cells (.int .i64 0)) (n * 1)).toList = (List.replicate n 0).map (fun k : Nat => Value.int .i64 (k : Int)) := by
 rw [Nat.mul_one]
 refine List.ext_getElem (by simp [madeCells]) fun i h1 h2 => ?_
 simp [madeCells, Value.cells, Nat.mod_one]
theorem OwnD.made {w : World} {base g n : Nat} (h : w.ownsRow base 3 1 (.slice (some ⟨g, 0, none⟩) n n) n (madeCells (Value.cells (.int .i64 0)) (n * 1)).toList) : OwnD w base g n (List.replicate n 0) :=
 ⟨by simp, by rw [← madeD]; exact h⟩
theorem OwnD.lt {w : World} {base g n : Nat} {ds : List Nat} (h : OwnD w base g n ds) : base ≤ g ∧ g < w.heap.size := h.2.lt g rfl
theorem OwnD.gbr {w w' : World} {base g n : Nat} {ds : List Nat} {row : Option Nat} (h : OwnD w base g n ds) (hg : w.grownBy w' row) (hv : row ≠ some g) : OwnD w' base g n ds := ⟨h.1, h.2.kept hg (.inr (fun e => hv e.symm))⟩
theorem gb_setCell (w : World) (p : Addr) (u : Value) : w.grownBy (w.setCell p u) (some p.block) :=
 ⟨rfl, rfl, rfl, by simp [World.setCell], fun i _ hi => Below.heap_setCell _ _ _ _ (fun e => hi (by rw [e]))⟩
theorem ownN_none (w : World) (base : Nat) : OwnN w base (.slice none 0 0) [] := ⟨by simp, World.ownsRow_nil w base _ 5⟩
theorem own_dec {v : Value} {r : Option Nat} (h : ∀ k, v.ownBlock = some k → r ≠ some k) : v.ownBlock = none ∨ v.ownBlock ≠ r := by
 cases hv : v.ownBlock with
 | none => exact .inl rfl
 | some k => exact .inr (fun e => h k hv e.symm)
end Go.Proofs.YtajgfmfopkggdaaGreat

namespace Go.Proofs.YtajgfmfopkggdaaGreat
open Go.RowKit Nds
set_option maxHeartbeats 1600000 in
theorem rinner_any (A : Option Addr) (c n : Nat) (l : List Nd) (p k : Nat) (w : World) (h : Ns w A c l) (hn : l.length = n) (hl : looseB l = true) (hp : p < n) (hlv : 1 < (at_ l p).lv) (hk : k < 4) :
  Calls Tryz.prog 147 #[.slice A n c, .int .i64 ((p : Int) + 1), .int .i64 (k : Int)] w fun e w' => e = .returned (.int .i64 (innK l (at_ l p) k)) ∧ w = w' := by
 have hcap := h.cap
 rw [hn] at hcap
 have hpl : p < l.length := by omega
 obtain ⟨b, off, rfl, hb, hc⟩ := h.at_ (by omega)
 have hyc := (hc p hpl).kid hk
 have hfk := fit_kid (loose_fit hl hpl) hk
 obtain ⟨R, hR⟩ : ∃ R, R = innK l (at_ l p) k := ⟨_, rfl⟩
 rw [← hR]
 obtain ⟨y, hy⟩ : ∃ y, y = (at_ l p).kid k := ⟨_, rfl⟩
 unfold innK at hR
 rw [← hy] at hR hfk hyc
 have i1 : (p : Int) < (n : Int) := by omega
 have i2 : (k : Int) < 4 := by omega
 rcases kid_up (by omega) hfk with rfl | ⟨r, rfl, hr, _⟩
 ·
  rw [if_pos rfl] at hR
  subst hR
  clear hy hfk hn hl hlv hc h
  go_enter Tryz.func147, Tryz.ntmps147
  go_wp2_with fail
  go_ret
  exact ⟨rfl, rfl⟩
 ·
  rw [if_neg (by omega), show ((r : Int) + 1).toNat - 1 = r by omega] at hR
  obtain ⟨k2, hk2⟩ : ∃ k2, k2 = 3 - k := ⟨_, rfl⟩
  have hzc := (hc r hr).kid (q := k2) (by omega)
  rw [← hk2] at hR
  rw [← hR] at hzc
  have t1 : ((r : Int) + 1 == 0) = false := beq_eq_false_iff_ne.2 (by omega)
  have e3 : (3 : Int) - (k : Int) = (k2 : Int) := by omega
  have i3 : (r : Int) < (n : Int) := by omega
  have i4 : (k2 : Int) < 4 := by omega
  have HE := Lib.hid e3
  clear hy hfk hn hl hlv hc hk2 hR h hr
  go_enter Tryz.func147, Tryz.ntmps147
  go_wp2_with fail
  go_ret
  exact ⟨rfl, rfl⟩
set_option maxHeartbeats 1600000 in
theorem rfind_any (A : Option Addr) (c n : Nat) (l : List Nd) (x : Nd) (w : World) (h : Ns w A c l) (hn : l.length = n) (hx : x.wf) :
  Calls Tryz.prog 148 #[.slice A n c, ndv x] w fun e w' => e = .returned (.int .i64 ((fnd l x : Nat) : Int)) ∧ Below w.heap.size w w' := by
 have hcap := h.cap
 rw [hn] at hcap
 have hb := (Below.refl w.heap.size w).alloc (Nat.le_refl _) (.cells #[.int .i64 x.lv, .int .i64 x.a, .int .i64 x.b, .int .i64 x.c, .int .i64 x.d] 91)
 have HB := Lib.hid hb
 have HNL := Lib.hid (h.below hb)
 have HL := Lib.hid hn
 have HWX := Lib.hid hx
 obtain ⟨R, hR⟩ : ∃ R, R = fnd l x := ⟨_, rfl⟩
 rw [← hR]
 have HR := Lib.hid hR
 have hbx := NdAt.new w x 91
 clear h hn hb hx hR
 go_enter Tryz.func148, Tryz.ntmps148
 go_wp2_with fail
 obtain ⟨f1, f2, f3, f4, f5⟩ := hbx
 generalize hg : w.heap.size = g at *
 generalize hW : w.alloc _ = W at *
 have HG := Lib.hid hg
 clear hW hg
 go_loopw [5] (fun i wr => ∃ (k nd : Nat), wr = W.drewN nd ∧ k ≤ n ∧ i = .int .i64 k ∧ ∀ j, j < k → at_ l j ≠ x) (fun i _ => n - (intOf i).toNat)
 case atStart => exact ⟨0, 0, rfl, by omega, rfl, fun j hj => by omega⟩
 case round =>
  obtain ⟨k, nd, rfl, hk, rfl, hall⟩ := hrel
  have HA := Lib.hid hall
  clear hall
  by_cases hlt : k < n
  ·
   obtain ⟨b, off, rfl, hb, hc⟩ := HNL.out.at_ (by rw [HL.out]; omega)
   obtain ⟨c1, c2, c3, c4, c5⟩ := hc k (by rw [HL.out]; exact hlt)
   have hwy := HNL.out.wf (i := k) (by rw [HL.out]; exact hlt)
   clear hc
   obtain ⟨y, hy⟩ : ∃ y, y = at_ l k := ⟨_, rfl⟩
   rw [← hy] at c1 c2 c3 c4 c5 hwy
   have HY := Lib.hid hy
   have hq := eql_node y x hwy HWX.out
   have i1 : (k : Int) < (n : Int) := by omega
   have i2 : (0 : Int) ≤ (k : Int) := by omega
   clear hy hwy
   by_cases hxy : y = x
   ·
    have HXY := Lib.hid hxy
    rw [decide_eq_true hxy] at hq
    clear hxy
    go_wp2_with fail
    go_quiet (fail)
    go_wp2_with fail
    go_ret
    refine ⟨?_, below_drewN' (by rw [HG.out]; exact HB.out) _⟩
    rw [HR.out, fnd_some (i := k) (by rw [HL.out]; exact hlt) (by rw [← HY.out]; exact HXY.out) HA.out]
    simp
   ·
    have HXY := Lib.hid hxy
    rw [decide_eq_false hxy] at hq
    clear hxy
    go_wp2_with fail
    go_quiet (fail)
    go_wp2_with fail
    go_roundw
    case rel =>
     refine ⟨k + 1, _, rfl, by omega, by go_num, fun j hj => ?_⟩
     rcases Nat.lt_or_ge j k with h1 | h1
     ·
      exact HA.out j h1
     ·
      rw [show j = k by omega, ← HY.out]; exact HXY.out
    case measure => simp [intOf]; omega
  ·
   go_wp2_with fail
   go_ret
   refine ⟨?_, below_drewN' (by rw [HG.out]; exact HB.out) _⟩
   rw [HR.out, fnd_none fun j hj => HA.out j (by rw [HL.out] at hj; omega)]
   rfl
set_option maxHeartbeats 1600000 in
theorem rsame_any (A B : Option Addr) (c d n p : Nat) (l m : List Nd) (w : World) (h : Ns w A c l) (k : Ns w B d m) (hn : l.length = n) (hp : m.length = p) :
  Calls Tryz.prog 18 #[.agg #[.slice A n c], .agg #[.slice B p d]] w fun e w' => e = .returned (.bool (decide (l = m))) ∧ Below w.heap.size w w' := by
 have hb := ((Below.refl w.heap.size w).alloc (Nat.le_refl _) (.cells #[.slice A n c] 26)).alloc (by simp) (.cells #[.slice B p d] 26)
 have HB := Lib.hid hb
 have HL := Lib.hid (h.below hb)
 have HM := Lib.hid (k.below hb)
 have HN := Lib.hid hn
 have HP := Lib.hid hp
 obtain ⟨R, hR⟩ : ∃ R, R = decide (l = m) := ⟨_, rfl⟩
 rw [← hR]
 have HR := Lib.hid hR
 clear hb h k hn hp hR
 go_enter Tryz.func18, Tryz.ntmps18
 go_wp2_with (go_at_call 53; refine (rnodes_any _ _ _ _ _ _ l m _ HL.out HM.out HN.out HP.out).mono ?_; rintro e w1 ⟨rfl, q, rfl⟩; rw [← HR.out])
 go_ret
 exact ⟨rfl, below_drewN' HB.out _⟩
theorem rloose_b (A : Option Addr) (c n : Nat) (l : List Nd) (w : World) (h : Ns w A c l) (hn : l.length = n) :
  Calls Tryz.prog 113 #[.slice A n c] w fun e w' => e = .returned (.bool (looseB l)) ∧ Below w.heap.size w w' :=
 (rloose_at A c n l w h hn).mono fun _ _ ⟨he, hw⟩ => ⟨he, drewN_below hw⟩
def okB (l : List Nd) (k : Int) : Bool := looseB l && decide (0 ≤ k ∧ k ≤ (l.length : Int))
def ofQ (l : List Nd) (k : Int) : List Nd := if okB l k = true then OfL l k.toNat else []
def ofE (l : List Nd) (k : Int) : Int := if okB l k = true then 0 else 1
def RetO (l : List Nd) (k : Int) (w : World) (e : Ending) (w' : World) : Prop :=
 ∃ A c, e = .returned (.tuple #[.agg #[.slice A (ofQ l k).length c], .int .i64 (ofE l k)]) ∧ Ns w' A c (ofQ l k) ∧ (A = none → c = 0) ∧ Below w.heap.size w w'
theorem ofQ_no {l : List Nd} {k : Int} (h : okB l k = false) : ofQ l k = [] ∧ ofE l k = 1 := by
 unfold ofQ ofE
 rw [if_neg (by rw [h]; simp), if_neg (by rw [h]; simp)]
 exact ⟨rfl, rfl⟩
theorem ofQ_yes {l : List Nd} {n : Nat} (hl : looseB l = true) (hn : n ≤ l.length) : ofQ l (n : Int) = OfL l n ∧ ofE l (n : Int) = 0 := by
 have h : okB l (n : Int) = true := by
  unfold okB
  rw [hl, decide_eq_true (by omega)]
  rfl
 unfold ofQ ofE
 rw [if_pos h, if_pos h, Int.toNat_natCast]
 exact ⟨rfl, rfl⟩
theorem okB_no {l : List Nd} {k : Int} (h : looseB l = false ∨ k < 0 ∨ (l.length : Int) < k) : okB l k = false := by
 unfold okB
 rcases h with h | h
 ·
  rw [h]
  rfl
 ·
  rw [decide_eq_false (by omega), Bool.and_false]
theorem ns_nil (w : World) : Ns w none 0 [] := ⟨by simp, Nat.le_refl _, by simp [maxLen], fun h => absurd h (Nat.lt_irrefl 0)⟩
end Go.Proofs.YtajgfmfopkggdaaGreat

namespace Go.Proofs.YtajgfmfopkggdaaGreat
open Go.RowKit Nds
def RetSh (l : List Nd) (k : Nat) (w : World) (e : Ending) (w' : World) : Prop :=
 ∃ v cur j, e = .returned (.tuple #[v, .int .i64 ((j : Nat) : Int)]) ∧ OwnN w' w.heap.size v cur ∧ looseB cur = true ∧ j ≤ cur.length ∧ den cur j = shrT (den l k) ∧ cur.length ≤ l.length + 1329 ∧ Below w.heap.size w w'
def lenOf : Value → Nat | .slice _ n _ => n | _ => 0
theorem OwnN.len {w : World} {base : Nat} {v : Value} {l : List Nd} (h : OwnN w base v l) : lenOf v = l.length := by
 obtain ⟨A, c, rfl, _⟩ := h.shape
 rfl
theorem OwnN.stays {w w' : World} {base : Nat} {v : Value} {l : List Nd} (h : OwnN w base v l) (hb : Below w.heap.size w w') : OwnN w' base v l :=
 h.gbr (row := none) ⟨hb.os, hb.tape, hb.output, hb.size, fun i hi _ => hb.block i hi⟩ (by
  cases hv : v.ownBlock
  ·
   exact .inl rfl
  ·
   exact .inr (by simp))
def SS (l : List Nd) (t : Tr) (cur : List Nd) (p : Nat) : Prop := looseB cur = true ∧ p < cur.length ∧ den cur (p + 1) ≠ .e ∧ shrT (den cur (p + 1)) = t ∧ (cur.length : Int) + (at_ cur p).lv ≤ l.length + 1329
theorem SS.start {l : List Nd} (hl : looseB l = true) {p : Nat} (hp : p < l.length) (hne : den l (p + 1) ≠ .e) : SS l (shrT (den l (p + 1))) l p := by
 have := fit_lv (loose_fit hl hp)
 exact ⟨hl, hp, hne, rfl, by omega⟩
theorem SS.next {l cur : List Nd} {t : Tr} {p : Nat} (h : SS l t cur p) (hh : holT (den cur (p + 1)) = true) : SS l t (cur ++ [innN cur (at_ cur p)]) cur.length := by
 obtain ⟨h1, h2, h3, h4, h5⟩ := h
 obtain ⟨s1, s2, s3, s4⟩ := shr_list h1 h2 hh
 refine ⟨s1, by simp, by rw [s2]; exact s3, by rw [s2, s4]; exact h4, ?_⟩
 rw [at_last]
 show (((cur ++ [_]).length : Nat) : Int) + ((at_ cur p).lv - 1) ≤ _
 rw [List.length_append]
 show ((cur.length + 1 : Nat) : Int) + _ ≤ _
 omega
theorem SS.len {l cur : List Nd} {t : Tr} {p : Nat} (h : SS l t cur p) : cur.length ≤ l.length + 1328 := by
 obtain ⟨h1, h2, h3, h4, h5⟩ := h
 have := fit_lv (loose_fit h1 h2)
 omega
set_option maxHeartbeats 3200000 in
theorem rshrink_any (A : Option Addr) (c n : Nat) (l : List Nd) (k : Nat) (w : World) (h : Ns w A c l) (hn : l.length = n) (hl : looseB l = true) (hn9 : n ≤ 900000) (hA : A = none → c = 0) (hk : k ≤ n) :
  Calls Tryz.prog 119 #[.slice A n c, .int .i64 (k : Int)] w (RetSh l k w) := by
 have hcap := h.cap
 rw [hn] at hcap
 have HN := Lib.hid h
 have HL := Lib.hid hn
 have HLL := Lib.hid hl
 have HA := Lib.hid hA
 have q0 : True := trivial
 have hemp := empB_den hl (n := k) (by omega)
 clear h hn hl hA
 by_cases he : den l k = .e
 ·
  have HE := Lib.hid he
  rw [he] at hemp
  have HM := Lib.hid (show empB l k = true from hemp)
  clear he hemp
  go_enter Tryz.func119, Tryz.ntmps119
  go_wp2_with (first
   | (have _t := q0; at_builtin; clear _t; go_loud (refine wpList_append_nodes _ rfl _ _ rfl w.heap.size _ [] l A n c rfl rfl (OwnN.start _) (HN.out.below ((Below.refl _ w).alloc (Nat.le_refl _) _)) HL.out HA.out (by simp; omega) (by simp) ?_; intro v2 w2 ho2 hg2 hk2; rw [List.nil_append] at ho2; have HO := Lib.hid ho2; obtain ⟨A2, c2, hv2, hn2, hA2, hB2⟩ := ho2.shape; rw [HL.out] at hv2; subst hv2; have HN2 := Lib.hid hn2; have HB := Lib.hid (((Below.refl _ w).alloc (Nat.le_refl _) _).grown hg2 (by simp) (fun k hk => by cases hk; exact Nat.le_refl _)); clear ho2 hg2 hk2 hn2 hA2 hB2; have q1 := q0; clear q0))
   | (have _t := q1; go_at_call 146; clear _t; go_loud (refine (rempty_any _ _ n l k _ HN2.out HL.out HLL.out (by omega) hk).mono ?_; rintro e w3 ⟨rfl, b3⟩; have HB3 := Lib.hid b3; clear b3; rw [HM.out]; have q2 := q1; clear q1)))
  go_ret2
  refine ⟨.slice A2 n c2, l, 0, rfl, ?_, HLL.out, Nat.zero_le _, ?_, by omega, HB.out.trans (HB3.out.mono HB.out.size)⟩
  ·
   exact HO.out.stays HB3.out
  ·
   rw [den_zero, HE.out, shr_e]
 ·
  obtain ⟨p, rfl⟩ : ∃ p, k = p + 1 := ⟨k - 1, by have : k ≠ 0 := fun e => he (by rw [e]; exact den_zero l); omega⟩
  have HM := Lib.hid (show empB l (p + 1) = false by rw [hemp]; exact isE_no.2 he)
  have HS0 := Lib.hid (SS.start HLL.out (by rw [HL.out]; omega) he)
  clear he hemp
  go_enter Tryz.func119, Tryz.ntmps119
  go_wp2_with (first
   | (have _t := q0; at_builtin; clear _t; go_loud (refine wpList_append_nodes _ rfl _ _ rfl w.heap.size _ [] l A n c rfl rfl (OwnN.start _) (HN.out.below ((Below.refl _ w).alloc (Nat.le_refl _) _)) HL.out HA.out (by simp; omega) (by simp) ?_; intro v2 w2 ho2 hg2 hk2; rw [List.nil_append] at ho2; have HO := Lib.hid ho2; obtain ⟨A2, c2, hv2, hn2, hA2, hB2⟩ := ho2.shape; rw [HL.out] at hv2; subst hv2; have HN2 := Lib.hid hn2; have HB := Lib.hid (((Below.refl _ w).alloc (Nat.le_refl _) _).grown hg2 (by simp) (fun k hk => by cases hk; exact Nat.le_refl _)); clear ho2 hg2 hk2 hn2 hA2 hB2; have q1 := q0; clear q0))
   | (have _t := q1; go_at_call 146; clear _t; go_loud (refine (rempty_any _ _ n l (p + 1) _ HN2.out HL.out HLL.out (by omega) hk).mono ?_; rintro e w3 ⟨rfl, b3⟩; have HB3 := Lib.hid b3; clear b3; rw [HM.out]; have q2 := q1; clear q1)))
  obtain ⟨v0, hv0⟩ : ∃ v0, v0 = Value.slice A2 n c2 := ⟨_, rfl⟩
  have HO3 := Lib.hid (show OwnN w3 w.heap.size v0 l by rw [hv0]; exact HO.out.stays HB3.out)
  have HBA := Lib.hid (HB.out.trans (HB3.out.mono HB.out.size))
  rw [← hv0]
  clear hv0
  go_loopw [6, 1, 7, 8] (fun z1 z2 z3 z4 wr => ∃ (cur : List Nd) (r : Nat) (v u1 u2 : Value), v = z1 ∧ z2 = .int .i64 ((r : Int) + 1) ∧ z3 = u1 ∧ z4 = u2 ∧ OwnN wr w.heap.size v cur ∧ SS l (shrT (den l (p + 1))) cur r ∧ Below w.heap.size w wr) (fun z1 _ _ _ _ => n + 2000 - lenOf z1)
  case atStart => exact ⟨l, p, _, _, _, rfl, by simp, rfl, rfl, HO3.out, HS0.out, HBA.out⟩
  case round =>
   obtain ⟨cur, r, v, u1, u2, rfl, rfl, rfl, rfl, how, hss, hbw⟩ := hrel
   have HS := Lib.hid hss
   have HW := Lib.hid how
   have hlen := hss.len
   rw [HL.out] at hlen
   obtain ⟨A3, c3, rfl, hn3, hA3, hB3⟩ := how.shape
   have HN3 := Lib.hid hn3
   have HA3 := Lib.hid hA3
   have HB4 := Lib.hid hB3
   obtain ⟨g1, g2, g3, g4, g5⟩ := hss
   have hhol := hollow_den g1 g2 g3
   obtain ⟨cn, hcn⟩ : ∃ cn, cn = cur.length := ⟨_, rfl⟩
   rw [← hcn] at g2 hlen ⊢
   have HCN := Lib.hid hcn
   have G1 := Lib.hid g1
   have G3 := Lib.hid g3
   have G4 := Lib.hid g4
   clear how hn3 hA3 hB3 g1 g3 g4 g5 hcn
   cases hh : holT (den cur (r + 1)) with
   | false =>
    have HH := Lib.hid hh
    rw [hh] at hhol
    have HHO := Lib.hid hhol
    clear hh hhol
    go_wp2_with (go_at_call 114; go_loud (refine (rhollow_any _ _ cn cur (r + 1) _ HN3.out HCN.out.symm G1.out (by omega) (by omega)).mono ?_; rintro e w4 ⟨rfl, b4⟩; have HB5 := Lib.hid b4; clear b4; rw [HHO.out]))
    go_ret2
    have hcn := HCN.out
    have hll := HL.out
    refine ⟨.slice A3 cn c3, cur, r + 1, rfl, ?_, G1.out, by omega, ?_, by omega, hbw.trans (HB5.out.mono hbw.size)⟩
    ·
     rw [hcn]
     exact HW.out.stays HB5.out
    ·
     rw [← G4.out, shr_done HH.out]
   | true =>
    have HH := Lib.hid hh
    rw [hh] at hhol
    have HHO := Lib.hid hhol
    have hlv := (hol_lv G1.out (by rw [← HCN.out]; exact g2) hh).1
    clear hh hhol
    obtain ⟨b, off, rfl, hb, hc⟩ := HN3.out.at_ (by rw [← HCN.out]; omega)
    have c1 := (hc r (by rw [← HCN.out]; exact g2)).1
    have HLV := Lib.hid hlv
    have HBB := Lib.hid hb
    obtain ⟨x, hx⟩ : ∃ x, x = at_ cur r := ⟨_, rfl⟩
    rw [← hx] at c1 hlv
    have HX := Lib.hid hx
    have hfx := fit_lv (loose_fit G1.out (i := r) (by rw [← HCN.out]; exact g2))
    rw [← hx] at hfx
    have i1 : (r : Int) < (cn : Int) := by omega
    clear hc hb hx
    go_wp2_with (go_at_call 114; go_loud (refine (rhollow_any _ _ cn cur (r + 1) _ HN3.out HCN.out.symm G1.out (by omega) (by omega)).mono ?_; rintro e w4 ⟨rfl, b4⟩; have HB5 := Lib.hid b4; have c1 := (World.cell?_of_block (w := wr) (a := ⟨b, off + r * 5, none⟩) (b4.block b HBB.out)).trans c1; clear b4; rw [HHO.out]))
    have HBW4 := Lib.hid (hbw.trans (HB5.out.mono hbw.size))
    have HW4 := Lib.hid (HW.out.stays HB5.out)
    have HN4 := Lib.hid (HN3.out.below HB5.out)
    obtain ⟨g, hg⟩ : ∃ g, g = w4.heap.size := ⟨_, rfl⟩
    have hbox : NdBox (w4.alloc (.cells #[.int .i64 (x.lv - 1), .int .i64 0, .int .i64 0, .int .i64 0, .int .i64 0] 91)) g (mix ⟨x.lv - 1, 0, 0, 0, 0⟩ (innN cur x) 0) := by rw [hg]; exact NdBox.new w4 ⟨x.lv - 1, 0, 0, 0, 0⟩
    have HBOX := Lib.hid hbox
    have HG5 := Lib.hid (World.grownBy_alloc w4 (.cells #[.int .i64 (x.lv - 1), .int .i64 0, .int .i64 0, .int .i64 0, .int .i64 0] 91) (some g))
    have HGB := Lib.hid (show b < g by rw [hg]; exact Nat.lt_of_lt_of_le HBB.out HB5.out.size)
    have HGW := Lib.hid (show w.heap.size ≤ g by rw [hg]; exact HBW4.out.size)
    have HGO := Lib.hid hg
    rw [← hg]
    generalize hWW : w4.alloc _ = W at *
    clear hWW hg hbox c1
    go_loopw [8] (fun i wq => ∃ (q : Nat), q ≤ 4 ∧ i = .int .i64 q ∧ NdBox wq g (mix ⟨x.lv - 1, 0, 0, 0, 0⟩ (innN cur x) q) ∧ w4.grownBy wq (some g)) (fun i _ => 4 - (intOf i).toNat)
    case atStart => exact ⟨0, by omega, rfl, HBOX.out, HG5.out⟩
    case round =>
     obtain ⟨q, hq, rfl, hbq, hgq⟩ := hrel
     have HBQ := Lib.hid hbq
     have HGQ := Lib.hid hgq
     have HNQ := Lib.hid (HN4.out.gbr hgq (fun a ea e => by cases ea; exact absurd (Option.some.inj e) (Nat.ne_of_lt HGB.out)))
     clear hbq hgq
     by_cases hq4 : q < 4
     ·
      have i2 : (q : Int) < 4 := by omega
      have i3 : (0 : Int) ≤ (q : Int) := by omega
      have hfz := HBQ.out.free (1 + q)
      have hce := HBQ.out.at_.kid hq4
      have e1 : 0 + 1 + q = 1 + q := by omega
      rw [e1] at hce
      generalize (mix ⟨x.lv - 1, 0, 0, 0, 0⟩ (innN cur x) q).kid q = z at hce
      clear e1
      go_wp2_with (go_at_call 147; go_loud (refine (rinner_any _ _ cn cur r q _ HNQ.out HCN.out.symm G1.out g2 HLV.out hq4).mono ?_; rintro e w5 ⟨rfl, rfl⟩; rw [← HX.out]))
      go_roundw
      case rel =>
       refine ⟨q + 1, by omega, by go_num, HBQ.out.setKid hq4 (by omega) (innN_kid cur x hq4).symm, gb_trans HGQ.out (gb_setCell _ _ _)⟩
      case measure => simp [intOf]; omega
     ·
      have hq5 : q = 4 := by omega
      subst hq5
      rw [mix_four (show (⟨x.lv - 1, 0, 0, 0, 0⟩ : Nd).lv = (innN cur x).lv from rfl)] at HBQ
      obtain ⟨f1, f2, f3, f4, f5⟩ := HBQ.out.at_
      have HSN := Lib.hid (HS.out.next HH.out)
      rw [← HX.out] at HSN
      obtain ⟨y, hy⟩ : ∃ y, y = innN cur x := ⟨_, rfl⟩
      rw [← hy] at f1 f2 f3 f4 f5 HSN
      have hwy : y.wf := by
       have h1 := (inn_step G1.out (p := r) (by rw [← HCN.out]; exact g2) HLV.out G3.out).1
       rw [← HX.out, ← hy] at h1
       exact fit_wf h1 (by rw [← HCN.out]; omega)
      have HWY := Lib.hid hwy
      have HOQ := Lib.hid (show OwnN wr w.heap.size (.slice (some ⟨b, off, none⟩) cn c3) cur by
       have h1 := HW4.out.gbr HGQ.out (.inr (fun e => absurd (Option.some.inj e) (Nat.ne_of_lt HGB.out)))
       rw [HCN.out]
       exact h1)
      have hgs : w.heap.size ≤ wr.heap.size := Nat.le_trans HBW4.out.size HGQ.out.size
      clear hwy hy
      go_wp2_with (at_builtin; go_loud (refine wpList_append_nodes _ rfl _ _ rfl w.heap.size _ cur [y] _ 1 1 rfl rfl (HOQ.out.alloc _) (ns_lit1 _ _ y HWY.out rfl) rfl (fun e => by cases e) (by rw [← HCN.out]; omega) (by simp; omega) ?_; intro v6 w6 ho6 hg6 hk6; obtain ⟨A6, c6, hv6, -, -, -⟩ := ho6.shape; have HO6 := Lib.hid ho6; have HG6 := Lib.hid hg6; have HK6 := Lib.hid hk6; subst hv6; clear ho6 hg6 hk6))
      go_roundw
      case rel =>
       refine ⟨cur ++ [y], cur.length, .slice A6 (cur ++ [y]).length c6, _, _, (by simp), ?_, rfl, rfl, HO6.out, HSN.out, ?_⟩
       ·
        simp
       ·
        refine ((HBW4.out.grown HGQ.out HBW4.out.size (fun k hk => by cases hk; exact HGW.out)).alloc hgs _).grown HG6.out (by simp; omega) (fun k hk => (HOQ.out.lt k hk).1)
      case measure =>
       have hcn := HCN.out
       simp [lenOf]
       omega
end Go.Proofs.YtajgfmfopkggdaaGreat
