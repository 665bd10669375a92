/-
  limb.trim: a without the limbs behind the last one that isn't 0; limb.Norm.
-/
import Derived.Test.YthkeehfoefjnfaaBack
namespace Go.Proofs.Ythkeehfoefjnfaa
set_option linter.unusedVariables false
set_option linter.unusedSimpArgs false
open Go.RowKit Go.Shelf Num
attribute [local go_sem] Oper.semAt_some

theorem its_zero {xs : List Nat} {hd : Dig xs} {k : Nat} (hk : k ≤ xs.length) (h : ∀ y ∈ its xs hd k, y.1.2 = 0) : ∀ j, xs.length - k ≤ j → j < xs.length → xs[j]?.getD 0 = 0 := by
  intro j h1 h2
  have hm : it xs hd (xs.length - 1 - j) ∈ its xs hd k := List.mem_map.2 ⟨_, List.mem_range.2 (by omega), rfl⟩
  have := h _ hm
  unfold it at this
  simp only [show xs.length - 1 - (xs.length - 1 - j) = j from by omega] at this
  exact this
/-- All that came are noughts: the number is 0. -/
theorem trim_none {xs : List Nat} {hd : Dig xs} (h : ∀ y ∈ its xs hd xs.length, y.1.2 = 0) : val xs = 0 := by
  have := val_cut (xs := xs) (k := 0) (Nat.zero_le _) (fun j _ hl => its_zero (Nat.le_refl _) h j (by omega) hl)
  rw [← this]; rfl
/-- The last one that came isn't, the others are. -/
theorem trim_some {xs : List Nat} {hd : Dig xs} {k : Nat} {pre : List (Item xs.length)} {x : Item xs.length} (hk : k ≤ xs.length) (he : pre ++ [x] = its xs hd k) (hp : ∀ y ∈ pre, y.1.2 = 0) (hx : x.1.2 ≠ 0) :
    x.1.1 < xs.length ∧ x.1.2 = xs[x.1.1]?.getD 0 ∧ Canon (xs.take (x.1.1 + 1)) ∧ val (xs.take (x.1.1 + 1)) = val xs := by
  cases k with
  | zero => simp [its] at he
  | succ k =>
    rw [its_succ] at he
    obtain ⟨e1, e2⟩ := List.append_inj' he rfl
    simp only [List.cons.injEq, and_true] at e2
    subst e1
    subst e2
    have hz := its_zero (hd := hd) (k := k) (by omega) hp
    unfold it at hx ⊢
    simp only at hx ⊢
    refine ⟨by omega, trivial, canon_take (by omega) hx, val_cut (by omega) (fun j h1 h2 => hz j (by omega) h2)⟩

def trimI (A : Option Addr) (c B0 : Nat) (xs : List Nat) (w : World) (pre : List (Item xs.length)) (W : World) : Prop :=
  ((∀ y ∈ pre, y.1.2 = 0) ∧ W.cell? ⟨B0, 0, none⟩ = some (.slice A xs.length c) ∧ W.cell? ⟨B0 + 1, 0, none⟩ = some (.slice none 0 0) ∧ W.frozen? ⟨B0 + 1, 0, none⟩ = false) ∧ Below w.heap.size w W
def trimX (A : Option Addr) (c B0 : Nat) (xs : List Nat) (w : World) (cd : Code) (pre : List (Item xs.length)) (W : World) : Prop :=
  (cd = .ret ∧ ∃ p x, pre = p ++ [x] ∧ (∀ y ∈ p, y.1.2 = 0) ∧ x.1.2 ≠ 0 ∧ W.cell? ⟨B0 + 1, 0, none⟩ = some (.slice A (x.1.1 + 1) c)) ∧ Below w.heap.size w W

/-- What trim leaves: a piece of what it was given, from its beginning on; wherever that reads as xs, this reads as rs. -/
def RetT (A : Option Addr) (c : Nat) (xs : List Nat) (w : World) (e : Ending) (w' : World) : Prop :=
  ∃ A' c' rs, e = .returned (.slice A' rs.length c') ∧ (∀ W, Us W A c xs → Us W A' c' rs) ∧ Canon rs ∧ val rs = val xs ∧ rs.length ≤ xs.length ∧ Below w.heap.size w w'
theorem Us.take {w : World} {A : Option Addr} {c : Nat} {xs : List Nat} (h : Us w A c xs) {k : Nat} (hk : k ≤ xs.length) : Us w A c (xs.take k) := by
  refine ⟨h.1.take k, ?_, h.2.2.1, fun hn => ?_⟩
  · have := h.2.1
    simp only [List.length_map, List.length_take] at this ⊢
    omega
  · simp only [List.length_map, List.length_take] at hn
    obtain ⟨b, off, e, hb, hc⟩ := h.2.2.2 (by simp; omega)
    refine ⟨b, off, e, hb, fun j u hu => hc j u ?_⟩
    rw [List.map_take, List.getElem?_take] at hu
    split at hu
    · exact hu
    · cases hu

set_option maxRecDepth 100000 in
set_option maxHeartbeats 2000000 in
theorem trim_sub (A : Option Addr) (c : Nat) (xs : List Nat) (w : World) (h : Us w A c xs) (hl : xs.length ≤ 1000000) :
    Calls Try.prog 60 #[.slice A xs.length c] w (RetT A c xs w) := by
  refine (callsIn_wide (n := 4)).1 ?_
  have hd := h.1
  obtain ⟨hcap1, hcap2⟩ := h.cap
  have HH := Lib.hid h
  clear h
  refine callsIn_of_wp_marks Try.func60 rfl trivial ?_ rfl
  simp only [Try.ntmps60, List.size_toArray, List.length_cons, List.length_nil, Nat.reduceAdd, Nat.reduceSub, Array.replicate_succ, Array.replicate_zero, List.push_toArray, List.append_toArray, List.nil_append, List.cons_append]
  gi_wp2_with (refine ⟨trivial, ?_⟩; gi_at_call 66; refine (callsIn_wide.2 (back_any _ _ _ _)).mono ?_; rintro e w' ⟨rfl, rfl⟩)
  have c0 := cell_new_l w (.slice A xs.length c) 22
  have c1 := cell_new_l (w.alloc (.cells #[.slice A xs.length c] 22)) (.slice none 0 0) 22
  have c2 := cell_new_l ((w.alloc (.cells #[.slice A xs.length c] 22)).alloc (.cells #[.slice none 0 0] 22)) (.slice A xs.length c) 22
  simp only [World.size_alloc] at c1 c2
  have hB0 : Below w.heap.size w (((w.alloc (.cells #[.slice A xs.length c] 22)).alloc (.cells #[.slice none 0 0] 22)).alloc (.cells #[.slice A xs.length c] 22)) := (((Below.refl _ w).alloc (Nat.le_refl _) _).alloc (by simp) _).alloc (by simp; omega) _
  refine wpIn_rangeFunc_ownF rfl (by decide) (gf := 78) (lb := #[.pointer (some ⟨w.heap.size + 1 + 1, 0, none⟩)]) rfl trivial (enters_of Try.func78 (by kernel_rfl) rfl)
    (back_stops Fence.wide 3 trivial rfl (by decide) (w.heap.size + 1 + 1) w.heap.size c A xs hd hl w _ (by simp) (by simp; omega) c2.1 HH.out rfl hB0) BackK.trans (BackK.b (by simp; omega) (by simp)) (Below.refl _ _) (fun _ => rfl)
    (trimI A c w.heap.size xs w) (trimX A c w.heap.size xs w)
    (OwnFrom.and (Own.from (fun s A B row hs hg hr => ⟨hs.1, cell_kept hs.2.1 hg hr, cell_kept hs.2.2.1 hg hr, (frozen_kept hs.2.2.1 hg hr).trans hs.2.2.2⟩) _) (ownFrom_below (Nat.le_refl _) (by simp; omega)))
    (fun cd => OwnFrom.and (Own.from (fun s A B row hs hg hr => ⟨hs.1, by obtain ⟨p, x, e1, e2, e3, e4⟩ := hs.2; exact ⟨p, x, e1, e2, e3, cell_kept e4 hg hr⟩⟩) _) (ownFrom_below (Nat.le_refl _) (by simp; omega)))
    ⟨⟨by simp, cell_alloc_l _ (cell_alloc_l _ c0.1), cell_alloc_l _ c1.1, frozen_alloc_l _ c1.1 c1.2⟩, hB0⟩
    (fun x => { tmps := #[.slice A xs.length c, .pointer (some ⟨w.heap.size, 0, none⟩), .pointer (some ⟨w.heap.size + 1, 0, none⟩), .int .i64 (x.1.1 : Int), .int .u32 (x.1.2 : Int), .slice A xs.length c, .func (.func 78) #[] #[.pointer (some ⟨w.heap.size + 1 + 1, 0, none⟩)], .int .i64 (x.1.1 : Int), .int .u32 (x.1.2 : Int), undef, undef, undef, undef, undef, undef], defers := [] }) ?assign ?body ?done ?stop
  case assign =>
    intro l x W K hK
    unfold itemE
    gi_wp2
    exact hK
  case body =>
    rintro l pre x W ⟨⟨hz, hca, hcr, hfr⟩, hB⟩ hpre
    obtain ⟨⟨i, y⟩, hxi⟩ := x
    have hi' : i < xs.length := hxi.1 (by omega)
    have hy : y < 4294967296 := hxi.2
    dsimp only
    have HZ := Lib.hid hz
    have HB := Lib.hid hB
    clear hz hB c0 c1 c2 hB0
    by_cases hy0 : y = 0
    · subst hy0
      gi_wp2
      refine ⟨KeepsOthers.refl _, BackK.refl _ _ _, ⟨fun z hz => ?_, hca, hcr, hfr⟩, HB.out⟩
      rcases List.mem_append.1 hz with hz | hz
      · exact HZ.out z hz
      · simp only [List.mem_singleton] at hz; subst hz; rfl
    · have t1 : ((y : Int) != 0) = true := by rw [bne_iff_ne]; omega
      have hic : (i : Int) + 1 ≤ (c : Int) := by omega
      gi_wp2
      refine ⟨KeepsOthers.setCell _ _ _, ⟨rfl, pre, _, rfl, HZ.out, hy0, World.cell?_setCell_same' _ _ _ (by rw [hcr]; rfl)⟩, HB.out.setCell (p := ⟨w.heap.size + 1, 0, none⟩) (by simp) _⟩
  case done =>
    rintro D ys W hD rfl ⟨⟨hz, hca, hcr, hfr⟩, hB⟩ hK
    have hv := trim_none hz
    have HZ := Lib.hid hz
    have HB := Lib.hid hB
    have HV := Lib.hid hv
    clear hz hB hv c0 c1 c2 hB0
    gi_wp2
    have hK' := (KeepsOthers.setCell W ⟨w.heap.size + 1, 0, none⟩ (.slice none 0 0)).same D _ hK rfl
    refine ⟨by simp, .inl ⟨_, _, rfl, run_takeDeferred hK', ?_⟩⟩
    have hc5 := cell_kept (World.cell?_setCell_same' W ⟨w.heap.size + 1, 0, none⟩ (.slice none 0 0) (by rw [hcr]; rfl)) (grownBy_putObj' _ D (.deferred none)) (fun r e => by cases e; exact ⟨_, hK', rfl⟩)
    refine ⟨.slice none 0 0, ?_, none, 0, [], rfl, fun W _ => Us.nil W, canon_nil, by rw [HV.out]; rfl, Nat.zero_le _, (HB.out.setCell (p := ⟨w.heap.size + 1, 0, none⟩) (by simp) _).trans (belowK_b (w := w) (Nat.le_refl _) _ D _ _ (by simp at hD; omega) hK' rfl rfl)⟩
    simp [results, Try.f60, go_sem, hc5]
  case stop =>
    rintro D cd pre W hD ⟨k, hk, hpre⟩ ⟨⟨rfl, p, x, e1, e2, e3, hcr⟩, hB⟩ hK
    obtain ⟨g1, g2, g3, g4⟩ := trim_some hk (e1.symm.trans hpre) e2 e3
    have HB := Lib.hid hB
    clear hB e1 e2 hpre c0 c1 c2 hB0
    gi_wp2
    refine ⟨by simp, .inl ⟨_, _, rfl, run_takeDeferred hK, ?_⟩⟩
    have hc5 := cell_kept hcr (grownBy_putObj' _ D (.deferred none)) (fun r e => by cases e; exact ⟨_, hK, rfl⟩)
    have hbw := HB.out.trans (belowK_b (w := w) (Nat.le_refl _) W D _ (.deferred none) (by simp at hD; omega) hK rfl rfl)
    refine ⟨.slice A (x.1.1 + 1) c, ?_, A, c, xs.take (x.1.1 + 1), ?_, fun W hW => hW.take (by omega), g3, g4, by rw [List.length_take]; omega, hbw⟩
    · simp [results, Try.f60, go_sem, hc5]
    · rw [List.length_take, Nat.min_eq_left (by omega)]

theorem trim_any (A : Option Addr) (c : Nat) (xs : List Nat) (w : World) (h : Us w A c xs) (hl : xs.length ≤ 1000000) :
    Calls Try.prog 60 #[.slice A xs.length c] w (RetU (val xs) w) :=
  (trim_sub A c xs w h hl).mono fun _ _ ⟨A', c', rs, e, hU, hc, hv, _, hb⟩ => ⟨A', c', rs, e, hU _ (h.below hb), hc, hv, hb⟩

theorem trim_of {A : Option Addr} {c n : Nat} {xs : List Nat} {w : World} (h : Us w A c xs) (hn : xs.length = n) (hl : n ≤ 1000000) :
    Calls Try.prog 60 #[.slice A n c] w (RetU (val xs) w) := by
  subst hn
  exact trim_any A c xs w h hl

end Go.Proofs.Ythkeehfoefjnfaa
