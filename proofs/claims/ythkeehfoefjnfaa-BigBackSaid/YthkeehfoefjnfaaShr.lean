/-
  limb.Shr: divided by a power of two.
-/
import Derived.Test.YthkeehfoefjnfaaTrim
import Derived.Test.YthkeehfoefjnfaaRound
import Derived.Test.YthkeehfoefjnfaaOwn
import Derived.Test.YthkeehfoefjnfaaSmall
import Derived.Test.YthkeehfoefjnfaaBits
import Derived.Deep.DeepCutAuto
namespace Go.Proofs.Ythkeehfoefjnfaa
set_option linter.unusedVariables false
set_option linter.unusedSimpArgs false
open Go.RowKit Go.Shelf Num
attribute [local go_sem] Oper.semAt_some

/-- Kept where only what is no cells turns. -/
theorem OwnU.keptG {A B : World} {row : Option Nat} {base g n : Nat} {rs : List Nat} (h : OwnU A base g n rs) (hg : A.grownBy B row) (hr : ∀ r, row = some r → ∃ o : Obj, A.heap[r]? = some o ∧ o.isCells = false) : OwnU B base g n rs := by
  refine ⟨h.1, h.2.1, h.2.2.1, ?_⟩
  rcases h.2.2.2 with h1 | ⟨g', cap, cur, h1, h2, h3, h4⟩
  · exact .inl h1
  · refine .inr ⟨g', cap, cur, h1, h2, (hg.block g' ?_ ?_).trans h3, h4⟩
    · rcases Nat.lt_or_ge g' A.heap.size with hlt | hge
      · exact hlt
      · rw [Array.getElem?_eq_none hge] at h3; cases h3
    · intro e
      obtain ⟨o, ho, hc⟩ := hr g' e.symm
      rw [h3] at ho
      cases ho
      cases hc
/-- The rounds' doing: the row, and the limb above. -/
def shrD (p ab x : Nat) : Nat := (4294967296 * ab + x) / 2 ^ p % 4294967296
def shrStep (p : Nat) {m : Nat} (s : List Nat × Nat) (x : Item m) : List Nat × Nat := (s.1.set x.1.1 (shrD p s.2 x.1.2), x.1.2)
def shrSt (p : Nat) {m : Nat} (pre : List (Item m)) : List Nat × Nat := pre.foldl (shrStep p) (List.replicate m 0, 0)
theorem shrSt_snoc (p : Nat) {m : Nat} (pre : List (Item m)) (x : Item m) : shrSt p (pre ++ [x]) = shrStep p (shrSt p pre) x := by simp [shrSt]

theorem Us.keptG {w w' : World} {row : Option Nat} {A : Option Addr} {c : Nat} {xs : List Nat} (h : Us w A c xs) (hg : w.grownBy w' row) (hr : ∀ r, row = some r → ∃ o : Obj, w.heap[r]? = some o ∧ o.isCells = false) : Us w' A c xs :=
  ⟨h.1, h.2.1, h.2.2.1, fun hn => by
    obtain ⟨b, off, e, hlt, hc⟩ := h.2.2.2 hn
    exact ⟨b, off, e, Nat.lt_of_lt_of_le hlt hg.size, fun j u hu => cell_kept (hc j u hu) hg hr⟩⟩
theorem val_drop_set {rs : List Nat} {i : Nat} (d : Nat) (hi : i < rs.length) : val ((rs.set i d).drop i) = d + 4294967296 * val (rs.drop (i + 1)) := by
  rw [val_drop (by simpa using hi), List.getElem?_set_self hi, List.drop_set_of_lt (by omega)]
  rfl
theorem shr_arith {p ab y Z : Nat} (hp : p < 32) (hy : y < 4294967296) (hr : ab % 2 ^ p = Z % 2 ^ p) : shrD p ab y + 4294967296 * (Z / 2 ^ p) = (y + 4294967296 * Z) / 2 ^ p := by
  unfold shrD
  have e : (4294967296 : Nat) = 2 ^ p * 2 ^ (32 - p) := by rw [← Nat.pow_add, show p + (32 - p) = 32 from by omega]
  have hP := Nat.two_pow_pos p
  have ha := Nat.div_add_mod ab (2 ^ p)
  have hz := Nat.div_add_mod Z (2 ^ p)
  have hrl := Nat.mod_lt Z hP
  rw [hr] at ha
  generalize ab / 2 ^ p = u at *
  generalize Z / 2 ^ p = q at *
  generalize Z % 2 ^ p = r at *
  generalize 2 ^ p = P at *
  have e1 : 4294967296 * ab + y = P * (4294967296 * u) + (4294967296 * r + y) := by
    rw [← ha, Nat.mul_add, Nat.mul_left_comm]; omega
  have e2 : y + 4294967296 * Z = P * (4294967296 * q) + (4294967296 * r + y) := by
    rw [← hz, Nat.mul_add, Nat.mul_left_comm]; omega
  have e3 : (4294967296 * r + y) / P < 4294967296 := by
    rw [Nat.div_lt_iff_lt_mul hP]
    have : 4294967296 * (r + 1) ≤ 4294967296 * P := Nat.mul_le_mul_left _ hrl
    omega
  rw [e1, e2, Nat.mul_add_div hP, Nat.mul_add_div hP, Nat.mul_add_mod, Nat.mod_eq_of_lt e3]
  omega
theorem shr_fold {p : Nat} (hp : p < 32) (zs : List Nat) (hd : Dig zs) : ∀ j, j ≤ zs.length → (shrSt p (its zs hd j)).1.length = zs.length ∧ (shrSt p (its zs hd j)).2 = zs[zs.length - j]?.getD 0 ∧
    val ((shrSt p (its zs hd j)).1.drop (zs.length - j)) = val (zs.drop (zs.length - j)) / 2 ^ p
  | 0, _ => by
    refine ⟨by simp [its, shrSt], ?_, ?_⟩
    · rw [Nat.sub_zero, List.getElem?_eq_none (Nat.le_refl _)]; rfl
    · rw [Nat.sub_zero, List.drop_eq_nil_of_le (by simp [its, shrSt]), List.drop_eq_nil_of_le (Nat.le_refl _)]
      simp [val]
  | j + 1, hj => by
    obtain ⟨h1, h2, h3⟩ := shr_fold hp zs hd j (by omega)
    rw [its_succ, shrSt_snoc]
    unfold shrStep it
    simp only
    have hi : zs.length - (j + 1) < zs.length := by omega
    have e : zs.length - 1 - j = zs.length - (j + 1) := by omega
    have e' : zs.length - j = zs.length - (j + 1) + 1 := by omega
    rw [e]
    rw [e'] at h2 h3
    generalize zs.length - (j + 1) = i at *
    refine ⟨by rw [List.length_set]; exact h1, rfl, ?_⟩
    rw [val_drop_set _ (by omega), h3, val_drop hi, h2]
    refine shr_arith hp (hd.getD i) ?_
    rcases Nat.lt_or_ge (i + 1) zs.length with hlt | hge
    · rw [val_drop hlt]
      have e32 : (4294967296 : Nat) = 2 ^ p * 2 ^ (32 - p) := by rw [← Nat.pow_add, show p + (32 - p) = 32 from by omega]
      rw [e32, Nat.mul_assoc, Nat.add_mul_mod_self_left]
    · rw [List.drop_eq_nil_of_le hge, List.getElem?_eq_none hge]
      rfl
theorem shr_all {p k wh : Nat} (hw : wh = k / 32) (hp : p = k % 32) (xs zs : List Nat) (hx : Dig xs) (hd : Dig zs) (hz : zs = xs.drop wh) (hl : wh ≤ xs.length) : val (shrSt p (its zs hd zs.length)).1 = val xs / 2 ^ k := by
  have h := (shr_fold (p := p) (by omega) zs hd zs.length (Nat.le_refl _)).2.2
  rw [Nat.sub_self, List.drop_zero, List.drop_zero] at h
  rw [h]
  have e : 2 ^ k = 4294967296 ^ wh * 2 ^ p := by rw [show (4294967296 : Nat) = 2 ^ 32 from by decide, ← Nat.pow_mul, ← Nat.pow_add, hp, hw, show 32 * (k / 32) + k % 32 = k from by omega]
  have hs := val_split xs wh hl
  have hlt := val_lt (hx.take wh)
  rw [List.length_take, Nat.min_eq_left hl] at hlt
  rw [e, ← Nat.div_div_eq_div_mul, hs, Nat.add_mul_div_left _ _ (Nat.pow_pos (by decide)), Nat.div_eq_of_lt hlt, Nat.zero_add, ← hz]
theorem shr_val {h l p : Nat} (hh : h < 4294967296) (hl : l < 4294967296) : bits .or .u64 ((h : Int) * 4294967296) (l : Int) / 2 ^ p % 4294967296 = ((shrD p h l : Nat) : Int) := by
  rw [join64 hh hl]
  unfold shrD
  simp
theorem shrD_lt (p ab x : Nat) : shrD p ab x < 4294967296 := Nat.mod_lt _ (by decide)
theorem KeepsOthers.drewR (W W' : World) (h : KeepsOthers W W') : KeepsOthers W W'.drew := h.trans (KeepsOthers.drew _)
theorem BackK.drew {n₀ Bs : Nat} {W W' : World} (h : BackK n₀ Bs W W') : BackK n₀ Bs W W'.drew := ⟨below_drewN h.1 1, h.2⟩

theorem Us.drop {w : World} {b off c : Nat} {xs : List Nat} (h : Us w (some ⟨b, off, none⟩) c xs) {k : Nat} (hk : k ≤ xs.length) : Us w (some ⟨b, off + k, none⟩) (c - k) (xs.drop k) := by
  have h1 := h.2.1
  have h2 := h.2.2.1
  refine ⟨h.1.drop k, by simp only [List.length_map, List.length_drop] at h1 ⊢; omega, by simp only [maxLen] at h2 ⊢; omega, fun hn => ?_⟩
  simp only [List.length_map, List.length_drop] at hn
  obtain ⟨b', off', e, hb, hc⟩ := h.2.2.2 (by simp; omega)
  cases e
  refine ⟨b, off + k, rfl, hb, fun j u hu => ?_⟩
  rw [Nat.add_assoc]
  refine hc (k + j) u ?_
  rwa [List.map_drop, List.getElem?_drop] at hu
def ShrI (p Bp Bd Ba g : Nat) (m : Nat) (w : World) (pre : List (Item m)) (W : World) : Prop :=
  (W.cell? ⟨Bp, 0, none⟩ = some (.int .i64 (p : Int)) ∧ W.cell? ⟨Bd, 0, none⟩ = some (.slice (some ⟨g, 0, none⟩) m m) ∧ W.cell? ⟨Ba, 0, none⟩ = some (.int .u32 ((shrSt p pre).2 : Int)) ∧ W.frozen? ⟨Ba, 0, none⟩ = false ∧
    (shrSt p pre).2 < 4294967296 ∧ OwnU W w.heap.size g m (shrSt p pre).1) ∧ Below w.heap.size w W

set_option maxRecDepth 100000 in
set_option maxHeartbeats 3200000 in
theorem shr_yes (b off c : Nat) (xs : List Nat) (k : Nat) (w : World) (h : Us w (some ⟨b, off, none⟩) c xs) (hl : xs.length ≤ 1000000) (hk : k ≤ 10000) (hkn : k / 32 < xs.length) :
    Calls Try.prog 20 #[.slice (some ⟨b, off, none⟩) xs.length c, .int .i64 (k : Int)] w (RetU (val xs / 2 ^ k) w) := by
  obtain ⟨i0, hi, hz0, hz1, hz2⟩ := info_parts Try.infoU
  obtain ⟨n, hn⟩ : ∃ n, n = xs.length := ⟨_, rfl⟩
  have hcap := h.cap
  rw [← hn] at hl hkn hcap ⊢
  have HN := Lib.hid hn
  have HH := Lib.hid h
  have HI := Lib.hid (And.intro hi (And.intro hz0 (And.intro hz1 hz2)))
  have hsb : shiftB (k : Int) = true := by simp [shiftB]; omega
  clear h hi hz0 hz1 hz2 hn
  obtain ⟨wh, hwh⟩ : ∃ wh, wh = k / 32 := ⟨_, rfl⟩
  obtain ⟨pt, hpt⟩ : ∃ pt, pt = k % 32 := ⟨_, rfl⟩
  have hw1 : wh < n := by omega
  have hp1 : pt < 32 := by omega
  have ew : (k : Int) / 32 = (wh : Int) := by omega
  have ep : (k : Int) % 32 = (pt : Int) := by omega
  have hcw : (c == wh) = false := by rw [beq_eq_false_iff_ne]; omega
  have HW := Lib.hid (And.intro hwh hpt)
  clear hwh hpt hkn
  refine calls_of_wide Try.func20 rfl ?_
  simp only [Try.ntmps20, List.size_toArray, List.length_cons, List.length_nil, Nat.reduceAdd, Nat.reduceSub, Array.replicate_succ, Array.replicate_zero, List.push_toArray, List.append_toArray, List.nil_append, List.cons_append]
  go_wp2_with (first
    | (go_at_call 68; refine (shift_any _ _).mono ?_; rintro e w' ⟨rfl, rfl⟩)
    | (at_make; refine wpList_make_full _ rfl _ _ 22 rfl w.heap.size 35 i0 _ 1 Try.underlying22 HI.out.1 HI.out.2.1 HI.out.2.2.1 .i64 .i64 _ _ (n - wh) rfl rfl (by omega) (by omega) (by rw [HI.out.2.2.2]; omega) (by unfold maxLen; omega) (by simp) ?_; intro w0 hown0 hgrow0)
    | (go_at_call 66; refine (back_any _ _ _ _).mono ?_; rintro e w' ⟨rfl, rfl⟩))
  obtain ⟨zs, hzs⟩ : ∃ zs, zs = xs.drop wh := ⟨_, rfl⟩
  have hzl : n - wh = zs.length := by rw [hzs, List.length_drop, ← HN.out]
  have hU : Us w (some ⟨b, off + wh, none⟩) (c - wh) zs := by rw [hzs]; exact HH.out.drop (by rw [← HN.out]; omega)
  simp only [World.size_alloc] at hown0
  have own0 := OwnU.made hown0
  rw [hzl] at own0 ⊢
  have hd := hU.1
  have hzl6 : zs.length ≤ 1000000 := by omega
  have c0 := cell_new_l w (.int .i64 (pt : Int)) 3
  have c0' := cell_kept c0.1 hgrow0 (fun r e => by cases e)
  have f0' := (frozen_kept c0.1 hgrow0 (fun r e => by cases e)).trans c0.2
  have c1 := cell_new_l w0 (.slice (some ⟨w.heap.size + 1, 0, none⟩) zs.length zs.length) 22
  have c2 := cell_new_l (w0.alloc (.cells #[.slice (some ⟨w.heap.size + 1, 0, none⟩) zs.length zs.length] 22)) (.int .u32 0) 35
  have c3 := cell_new_l ((w0.alloc (.cells #[.slice (some ⟨w.heap.size + 1, 0, none⟩) zs.length zs.length] 22)).alloc (.cells #[.int .u32 0] 35)) (.slice (some ⟨b, off + wh, none⟩) zs.length (c - wh)) 22
  simp only [World.size_alloc] at c2 c3
  have hb0 : Below w.heap.size w w0 := ((Below.refl _ w).alloc (Nat.le_refl _) _).grown hgrow0 (by simp) (fun k hk => by cases hk)
  have hg0 := own0.lt
  obtain ⟨W1, hW1⟩ : ∃ W1, ((w0.alloc (.cells #[.slice (some ⟨w.heap.size + 1, 0, none⟩) zs.length zs.length] 22)).alloc (.cells #[.int .u32 0] 35)).alloc (.cells #[.slice (some ⟨b, off + wh, none⟩) zs.length (c - wh)] 22) = W1 := ⟨_, rfl⟩
  have hbW : Below w.heap.size w W1 := by rw [← hW1]; exact ((hb0.alloc hb0.size _).alloc (by simp; have := hb0.size; omega) _).alloc (by simp; have := hb0.size; omega) _
  have hb01 : Below w0.heap.size w0 W1 := by rw [← hW1]; exact (((Below.refl _ w0).alloc (Nat.le_refl _) _).alloc (by simp) _).alloc (by simp; omega) _
  have hsz : W1.heap.size = w0.heap.size + 3 := by rw [← hW1]; simp
  have I0 : ShrI pt w.heap.size w0.heap.size (w0.heap.size + 1) (w.heap.size + 1) zs.length w [] W1 := by
    refine ⟨⟨(hb01.cell (p := ⟨w.heap.size, 0, none⟩) (show w.heap.size < w0.heap.size by omega)).trans c0', ?_, ?_, ?_, by show 0 < _; decide, own0.below hb01⟩, hbW⟩
    · rw [← hW1]; exact cell_alloc_l _ (cell_alloc_l _ c1.1)
    · rw [← hW1]; exact cell_alloc_l _ c2.1
    · rw [← hW1]; exact frozen_alloc_l _ c2.1 c2.2
  rw [hW1]
  have c3' : W1.cell? ⟨w0.heap.size + 1 + 1, 0, none⟩ = some (.slice (some ⟨b, off + wh, none⟩) zs.length (c - wh)) := by rw [← hW1]; exact c3.1
  have HZ := Lib.hid hzs
  have HZL := Lib.hid hzl
  have HSZ := Lib.hid hsz
  have hs1 : w0.heap.size + 3 ≤ W1.heap.size := by omega
  clear hW1 c0 c0' f0' c1 c2 c3 own0 hown0 hgrow0 hb01 hzl hzs hsz ew ep hcw hsb HI
  refine wpIn_wide.1 (wpIn_rangeFunc_ownF (n := 4) rfl (by decide) (gf := 78) (lb := #[.pointer (some ⟨w0.heap.size + 1 + 1, 0, none⟩)]) rfl trivial (enters_of Try.func78 (by kernel_rfl) rfl)
    (back_stops Fence.wide 3 trivial rfl (by decide) (w0.heap.size + 1 + 1) w.heap.size (c - wh) (some ⟨b, off + wh, none⟩) zs hd hzl6 w W1 (by omega) hbW.size c3' hU rfl hbW) BackK.trans (BackK.b hbW.size (by omega)) (Below.refl _ _) (fun _ => rfl)
    (ShrI pt w.heap.size w0.heap.size (w0.heap.size + 1) (w.heap.size + 1) zs.length w) (fun _ _ _ => False)
    (OwnFrom.and (Own.from (fun s A B row hs hg hr => ⟨cell_kept hs.1 hg hr, cell_kept hs.2.1 hg hr, cell_kept hs.2.2.1 hg hr, (frozen_kept hs.2.2.1 hg hr).trans hs.2.2.2.1, hs.2.2.2.2.1, hs.2.2.2.2.2.keptG hg hr⟩) _) (ownFrom_below (Nat.le_refl _) hbW.size))
    (fun _ _ _ _ _ hs _ _ => hs)
    I0
    (fun x => { tmps := #[.slice (some ⟨b, off, none⟩) n c, .int .i64 (k : Int), undef, undef, .slice none 0 0, .int .i64 (wh : Int), .pointer (some ⟨w.heap.size, 0, none⟩), .pointer (some ⟨w0.heap.size, 0, none⟩), .pointer (some ⟨w0.heap.size + 1, 0, none⟩), .int .i64 (x.1.1 : Int), .int .u32 (x.1.2 : Int),
      .int .i64 (k : Int), .bool true, .bool false, .bool false, .int .i64 (k : Int), .int .i64 (wh : Int), .slice (some ⟨b, off, none⟩) n c, .int .i64 (n : Int), .bool false, .bool false, .int .i64 (k : Int), .int .i64 (wh : Int), .int .i64 (k : Int), .int .i64 (pt : Int), .slice (some ⟨b, off, none⟩) n c, .int .i64 (n : Int), .int .i64 (wh : Int), .int .i64 ((n : Int) - wh), .slice (some ⟨w.heap.size + 1, 0, none⟩) zs.length zs.length,
      .slice (some ⟨b, off, none⟩) n c, .int .i64 (wh : Int), .slice (some ⟨b, off + wh, none⟩) zs.length (c - wh), .func (.func 78) #[] #[.pointer (some ⟨w0.heap.size + 1 + 1, 0, none⟩)], .int .i64 (x.1.1 : Int), .int .u32 (x.1.2 : Int), undef, undef, undef, undef, undef, undef, undef, undef, undef, undef, undef, undef, undef, undef, undef], defers := [] }) ?assign ?body ?done ?stop)
  case assign =>
    intro l x W K hK
    unfold itemE
    gi_wp2
    exact hK
  case body =>
    rintro l pre x W ⟨⟨e1, e2, e3, e4, e5, e6⟩, hB⟩ hpre
    obtain ⟨⟨i, y⟩, hxi⟩ := x
    have hi' : i < zs.length := hxi.1 (by omega)
    have hy : y < 4294967296 := hxi.2
    dsimp only
    have ec := e6.cell hi'
    have ef := e6.free i
    have hmx : Try.prog.follows .mixedOrders = true := by kernel_rfl
    obtain ⟨ab, hab⟩ : ∃ ab, ab = (shrSt pt pre).2 := ⟨_, rfl⟩
    rw [← hab] at e3 e5
    have HAB := Lib.hid hab
    have HB := Lib.hid hB
    have E6 := Lib.hid e6
    clear hab hB e6
    gi_wp2
    refine round_tail 11 (by kernel_rfl) (by kernel_rfl) (by kernel_rfl) ?_
    simp only [List.take_succ_cons, List.take_zero, List.drop_succ_cons, List.drop_zero]
    change wpStill _ _ W.drew _ _ _
    repeat (refine wpStill_step (fun K hK => ?_); go_simp; (try go_bits); refine hK _ ?_; clear hK K)
    refine wpStill_nil ?_
    go_wp2_with fail
    unfold NormalIn
    gi_wp2
    rw [shr_val e5 hy]
    have hgs := E6.out.lt
    refine ⟨KeepsOthers.drewR _ _ ((KeepsOthers.setCell _ _ _).trans (KeepsOthers.setCell _ _ _)), BackK.drew (((BackK.refl _ _ W).setCell (p := ⟨w.heap.size + 1, i, none⟩) (by simp) (by simp <;> omega) _).setCell (p := ⟨w0.heap.size + 1, 0, none⟩) (by simp <;> omega) (by simp) _), ⟨?_, ?_, ?_, ?_, ?_, ?_⟩, ?_⟩
    · show World.cell? _ _ = _
      rw [cell_drew_own, World.cell?_setCell_other _ _ _ _ (by simp <;> omega), World.cell?_setCell_other _ _ _ _ (by simp)]
      exact e1
    · rw [cell_drew_own, World.cell?_setCell_other _ _ _ _ (by simp), World.cell?_setCell_other _ _ _ _ (by simp <;> omega)]
      exact e2
    · rw [cell_drew_own, shrSt_snoc]
      refine World.cell?_setCell_same' _ _ _ ?_
      rw [World.cell?_setCell_other _ _ _ _ (by simp <;> omega), e3]
      rfl
    · rw [frozen_drew_own, World.frozen?_setCell, World.frozen?_setCell]
      exact e4
    · rw [shrSt_snoc]; exact hy
    · rw [shrSt_snoc]
      unfold shrStep
      rw [← HAB.out]
      exact ((E6.out.set i (shrD_lt _ _ _)).far (p := ⟨w0.heap.size + 1, 0, none⟩) (by simp <;> omega) _).drew
    · exact below_drewN ((HB.out.setCell (p := ⟨w.heap.size + 1, i, none⟩) (by simp) _).setCell (p := ⟨w0.heap.size + 1, 0, none⟩) (by simp <;> omega) _) 1
  case done =>
    rintro D ys W hD rfl ⟨⟨e1, e2, e3, e4, e5, e6⟩, hB⟩ hK
    have hv := shr_all HW.out.1 HW.out.2 xs zs HH.out.1 hd HZ.out (by rw [← HN.out]; omega)
    have HV := Lib.hid hv
    have RD := Lib.hid e6.reads
    have HL := Lib.hid e6.2.1
    have HB := Lib.hid hB
    have hDs := (Array.getElem?_eq_some_iff.1 hK).1
    have HK := Lib.hid hK
    clear hv e6 hB hK
    go_wp2_with (go_at_call 60; refine (trim_of RD.out HL.out hzl6).mono ?_; rintro e w3 ⟨A3, c3, r3, rfl, q3, k3, v3, b3⟩)
    have hK3 := (b3.block D hDs).trans HK.out
    refine ⟨by simp, .inl ⟨_, _, rfl, run_takeDeferred hK3, ?_⟩⟩
    have hb4 := belowK_b (w := w) (Nat.le_refl _) w3 D _ (.deferred none) (by have := hbW.size; omega) hK3 rfl rfl
    have q4 := q3.keptG (grownBy_putObj' w3 D (.deferred none)) (fun r e => by cases e; exact ⟨_, hK3, rfl⟩)
    exact ⟨_, results_tmp rfl _ _ _, A3, c3, r3, rfl, q4, k3, v3.trans HV.out, (HB.out.trans (b3.mono HB.out.size)).trans hb4⟩
  case stop =>
    rintro D cd pre W _ _ h _
    exact h.elim

theorem shr_no (A : Option Addr) (c n : Nat) (k : Int) (w : World) (hk : k < 0 ∨ 10000 < k) :
    Calls Try.prog 20 #[.slice A n c, .int .i64 k] w (RetU 0 w) := by
  have hsb : shiftB k = false := by simp [shiftB]; omega
  go_enter Try.func20, Try.ntmps20
  go_wp2_with (go_at_call 68; refine (shift_any _ _).mono ?_; rintro e w' ⟨rfl, rfl⟩)
  go_ret
  exact ⟨none, 0, [], rfl, Us.nil _, canon_nil, rfl, Below.refl _ _⟩
theorem shr_past (A : Option Addr) (c n k : Nat) (w : World) (hn : n ≤ 1000000) (hk : k ≤ 10000) (h : n ≤ k / 32) :
    Calls Try.prog 20 #[.slice A n c, .int .i64 (k : Int)] w (RetU 0 w) := by
  have hsb : shiftB (k : Int) = true := by simp [shiftB]; omega
  obtain ⟨q, hq⟩ : ∃ q, q = k / 32 := ⟨_, rfl⟩
  have eq1 : (k : Int) / 32 = (q : Int) := by omega
  rw [← hq] at h
  have hql : q ≤ 312 := by omega
  clear hq
  go_enter Try.func20, Try.ntmps20
  go_wp2_with (go_at_call 68; refine (shift_any _ _).mono ?_; rintro e w' ⟨rfl, rfl⟩)
  go_ret
  exact ⟨none, 0, [], rfl, Us.nil _, canon_nil, rfl, Below.refl _ _⟩
/-- Shr, at every number of places that may be. -/
theorem shr_any (A : Option Addr) (c : Nat) (xs : List Nat) (k : Nat) (w : World) (h : Us w A c xs) (hl : xs.length ≤ 1000000) (hk : k ≤ 10000) :
    Calls Try.prog 20 #[.slice A xs.length c, .int .i64 (k : Int)] w (RetU (val xs / 2 ^ k) w) := by
  rcases Nat.lt_or_ge (k / 32) xs.length with hlt | hge
  · obtain ⟨b, off, rfl, _, _⟩ := h.at_ (by omega)
    exact shr_yes b off c xs k w h hl hk hlt
  · have : val xs / 2 ^ k = 0 := by
      refine Nat.div_eq_of_lt (Nat.lt_of_lt_of_le (val_lt h.1) ?_)
      rw [show (4294967296 : Nat) = 2 ^ 32 from by decide, ← Nat.pow_mul]
      exact Nat.pow_le_pow_right (by decide) (by omega)
    rw [this]
    exact shr_past A c xs.length k w hl hk hge

end Go.Proofs.Ythkeehfoefjnfaa
