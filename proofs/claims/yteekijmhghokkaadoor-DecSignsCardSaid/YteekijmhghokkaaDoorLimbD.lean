/-
  Within a round of a range over a function: a region whose last operations are forced, of which the others read, or call what is quiet.
  limb.Shr: divided by a power of two.
  limb.Div: divided by a number; what is left.
-/
import Derived.Test.YteekijmhghokkaaDoorLimbB
import Derived.StillTailTactics
import Derived.Deep.RegionHeld
import Derived.Test.YteekijmhghokkaaDoorLimbA
import Derived.Deep.DeepCutAuto

namespace Go.Proofs.YteekijmhghokkaaDoor
set_option linter.unusedVariables false
set_option linter.unusedSimpArgs false
open Go.RowKit
theorem upon_in {P : Program} {o : Oper} {a : Act} {l n : Nat} {next next' : Act → World → Prop} {Q : Exit → Act → World → Prop} (hn : ∀ a w, next a w → next' a w) {r : Result Next} (h : o.upon P a next Q r) :
    o.uponIn (Fence.wide.inRound l) n P a next' Q r := by
  cases r with
  | ok x w' =>
    cases x with
    | value v => exact hn _ _ h
    | skip => exact hn _ _ h
    | defer d => exact hn _ _ h
    | enter f args =>
      refine ⟨(fun hd => by cases hd), CallsIn.inRound l (callsIn_wide.2 (Calls.mono h ?_))⟩
      intro e w'' he
      cases e with
      | returned v => exact hn _ _ he
      | panicked chain => exact he
      | outgrown => exact he
    | row row args =>
      refine ⟨(fun hd => by cases hd), ?_⟩
      intro c cs _
      obtain ⟨v, w'', r, s⟩ := (show Rows P row args w' _ from h) c cs
      exact ⟨v, w'', hn _ _ r, stepsIn_wide.2 s⟩
    | _ => exact False.elim h
  | halt x w' => cases x <;> exact h
/-- A statement ends as a statement does, or not at all. -/
def NormalIn (Q : Exit → Act → World → Prop) : Exit → Act → World → Prop
  | .normal, a, w => Q .normal a w
  | _, _, _ => False
theorem wpIn_normalIn {F : Fence} {n : Nat} {P : Program} {c : Code} {a : Act} {w : World} {Q : Exit → Act → World → Prop} (h : c.wpIn F n P (NormalIn Q) a w) : c.wpIn F n P Q a w :=
  wpIn_mono h fun e _ _ hq => by cases e <;> first | exact hq | exact False.elim hq
theorem ops_in {P : Program} {ops : Array Oper} {l n : Nat} {Q : Exit → Act → World → Prop} (hQ : ¬ LetsOut Q) (hnd : ∀ (i : Nat) (o : Oper), ops[i]? = some o → ∀ c, o.op ≠ .defer c) :
    ∀ (is : List Nat) (a : Act) (w : World), wpOps P ops Q is a w → wpOpsIn (Fence.wide.inRound l) n P ops Q is a w
  | [], _, _, h => h
  | i :: is, a, w, h => by
    simp only [wpOps] at h
    simp only [wpOpsIn]
    cases ho : ops[i]? with
    | none =>
      rw [ho] at h
      exact ops_in hQ hnd is a w h
    | some o =>
      rw [ho] at h
      dsimp only at h ⊢
      by_cases hw : Region.wanted o (yielded ops a.tmps) = true
      · rw [if_pos hw] at h ⊢
        rcases h with h | h
        · refine ⟨fun _ _ => trivial, ?_⟩
          rw [show (Fence.wide.inRound l).round = some l from rfl, Oper.semAt_some l _ o (hnd i o ho)]
          exact upon_in (ops_in hQ hnd is) h
        · exact absurd h.2 hQ
      · rw [if_neg hw] at h ⊢
        exact ⟨fun _ _ => trivial, ops_in hQ hnd is _ _ h⟩
theorem round_any {P : Program} {ops : Array Oper} {id l n : Nat} {Q : Exit → Act → World → Prop} {a : Act} {w : World} (hm : P.follows .mixedOrders = true) (hQ : ¬ LetsOut Q) (hnd : ∀ (i : Nat) (o : Oper), ops[i]? = some o → ∀ c, o.op ≠ .defer c)
    (h : wpAny P .any ops Q ops.size (Array.replicate ops.size false) a { w with drawn := w.drawn + 1 }) : (Code.region id ops true).wpIn (Fence.wide.inRound l) n P Q a w :=
  wpIn_region_draw fun t => ops_in hQ hnd _ _ _ (by
    simp only [Region.schedule, hm, Bool.true_or, if_true]
    exact wpAny_sound ops.size t _ a _ h)
/-- No 'defer' statement. -/
def noDefer : Op → Bool
  | .defer _ => false
  | _ => true
theorem noDefer_all {os : List Oper} (h : (os.all fun o => noDefer o.op) = true) : ∀ o ∈ os, ∀ c, o.op ≠ .defer c := fun o ho c e => by
  have := List.all_eq_true.1 h o ho
  rw [e] at this
  cases this
/-- A condition S on the world that each operation keeps: what reads under it may be taken first. -/
theorem round_held {P : Program} {os : List Oper} {id l n : Nat} {Q : Exit → Act → World → Prop} {a : Act} {w : World} (S : World → Prop) (hm : P.follows .mixedOrders = true) (hnd : (os.all fun o => noDefer o.op) = true)
    (h : wpAnyH P .any os.toArray (NormalIn Q) S os.toArray.size (Array.replicate os.toArray.size false) a w.drew) : (Code.region id os.toArray true).wpIn (Fence.wide.inRound l) n P Q a w :=
  wpIn_normalIn (round_any hm (fun ⟨_, _, h⟩ => h) (fun i o ho => noDefer_all hnd o (by rw [List.getElem?_toArray] at ho; exact List.mem_of_getElem? ho)) (wpAny_of_held _ _ _ _ h))
end Go.Proofs.YteekijmhghokkaaDoor

namespace Go.Proofs.YteekijmhghokkaaDoor
set_option linter.unusedVariables false
set_option linter.unusedSimpArgs false
open Go.RowKit Go.Shelf Num
attribute [local go_sem] Oper.semAt_some
/-- Kept where only what is no cells turns. -/
theorem OwnU.keptG {A B : World} {row : Option Nat} {base g n : Nat} {rs : List Nat} (h : OwnU A base g n rs) (hg : A.grownBy B row) (hr : ∀ r, row = some r → ∃ o : Obj, A.heap[r]? = some o ∧ o.isCells = false) : OwnU B base g n rs := by
  refine ⟨h.1, h.2.1, h.2.2.1, ?_⟩
  rcases h.2.2.2 with h1 | ⟨g', cap, cur, h1, h2, h3, h4⟩
  · exact .inl h1
  · refine .inr ⟨g', cap, cur, h1, h2, (hg.block g' ?_ ?_).trans h3, h4⟩
    · rcases Nat.lt_or_ge g' A.heap.size with hlt | hge
      · exact hlt
      · rw [Array.getElem?_eq_none hge] at h3; cases h3
    · intro e
      obtain ⟨o, ho, hc⟩ := hr g' e.symm
      rw [h3] at ho
      cases ho
      cases hc
theorem Us.keptG {w w' : World} {row : Option Nat} {A : Option Addr} {c : Nat} {xs : List Nat} (h : Us w A c xs) (hg : w.grownBy w' row) (hr : ∀ r, row = some r → ∃ o : Obj, w.heap[r]? = some o ∧ o.isCells = false) : Us w' A c xs :=
  ⟨h.1, h.2.1, h.2.2.1, fun hn => by
    obtain ⟨b, off, e, hlt, hc⟩ := h.2.2.2 hn
    exact ⟨b, off, e, Nat.lt_of_lt_of_le hlt hg.size, fun j u hu => cell_kept (hc j u hu) hg hr⟩⟩
theorem val_drop_set {rs : List Nat} {i : Nat} (d : Nat) (hi : i < rs.length) : val ((rs.set i d).drop i) = d + 4294967296 * val (rs.drop (i + 1)) := by
  rw [val_drop (by simpa using hi), List.getElem?_set_self hi, List.drop_set_of_lt (by omega)]
  rfl
theorem BackK.drew {n₀ Bs : Nat} {W W' : World} (h : BackK n₀ Bs W W') : BackK n₀ Bs W W'.drew := ⟨below_drewN h.1 1, h.2⟩
theorem Us.drop {w : World} {b off c : Nat} {xs : List Nat} (h : Us w (some ⟨b, off, none⟩) c xs) {k : Nat} (hk : k ≤ xs.length) : Us w (some ⟨b, off + k, none⟩) (c - k) (xs.drop k) := by
  have h1 := h.2.1
  have h2 := h.2.2.1
  refine ⟨h.1.drop k, by simp only [List.length_map, List.length_drop] at h1 ⊢; omega, by simp only [maxLen] at h2 ⊢; omega, fun hn => ?_⟩
  simp only [List.length_map, List.length_drop] at hn
  obtain ⟨b', off', e, hb, hc⟩ := h.2.2.2 (by simp; omega)
  cases e
  refine ⟨b, off + k, rfl, hb, fun j u hu => ?_⟩
  rw [Nat.add_assoc]
  refine hc (k + j) u ?_
  rwa [List.map_drop, List.getElem?_drop] at hu
end Go.Proofs.YteekijmhghokkaaDoor

namespace Go.Proofs.YteekijmhghokkaaDoor
set_option linter.unusedVariables false
set_option linter.unusedSimpArgs false
open Go.RowKit Go.Shelf Num
attribute [local go_sem] Oper.semAt_some
/-- The rounds' doing: the row, and what is left. -/
def divStep (m : Nat) {n : Nat} (s : List Nat × Nat) (x : Item n) : List Nat × Nat := (s.1.set x.1.1 (divQ s.2 x.1.2 m), divR s.2 x.1.2 m)
def divSt (m : Nat) {n : Nat} (pre : List (Item n)) : List Nat × Nat := pre.foldl (divStep m) (List.replicate n 0, 0)
theorem divSt_snoc (m : Nat) {n : Nat} (pre : List (Item n)) (x : Item n) : divSt m (pre ++ [x]) = divStep m (divSt m pre) x := by simp [divSt]
theorem div_fold {m : Nat} (hm : 0 < m) (zs : List Nat) (hd : Dig zs) : ∀ j, j ≤ zs.length → (divSt m (its zs hd j)).1.length = zs.length ∧ (divSt m (its zs hd j)).2 < m ∧
    val ((divSt m (its zs hd j)).1.drop (zs.length - j)) * m + (divSt m (its zs hd j)).2 = val (zs.drop (zs.length - j))
  | 0, _ => by
    refine ⟨by simp [its, divSt], hm, ?_⟩
    rw [Nat.sub_zero, List.drop_eq_nil_of_le (by simp [its, divSt]), List.drop_eq_nil_of_le (Nat.le_refl _)]
    simp [val, its, divSt]
  | j + 1, hj => by
    obtain ⟨h1, h2, h3⟩ := div_fold hm zs hd j (by omega)
    rw [its_succ, divSt_snoc]
    unfold divStep it
    simp only
    have hi : zs.length - (j + 1) < zs.length := by omega
    have e : zs.length - 1 - j = zs.length - (j + 1) := by omega
    have e' : zs.length - j = zs.length - (j + 1) + 1 := by omega
    rw [e]
    rw [e'] at h3
    generalize zs.length - (j + 1) = i at *
    refine ⟨by rw [List.length_set]; exact h1, divR_lt h2, ?_⟩
    rw [val_drop_set _ (by omega), val_drop hi, ← h3]
    have := div_eq (divSt m (its zs hd j)).2 (zs[i]?.getD 0) m
    generalize divQ (divSt m (its zs hd j)).2 (zs[i]?.getD 0) m = q at *
    generalize divR (divSt m (its zs hd j)).2 (zs[i]?.getD 0) m = r at *
    rw [Nat.add_mul, Nat.mul_assoc]
    omega
theorem div_all {m : Nat} (hm : 0 < m) (zs : List Nat) (hd : Dig zs) : val (divSt m (its zs hd zs.length)).1 = val zs / m ∧ (divSt m (its zs hd zs.length)).2 = val zs % m := by
  obtain ⟨_, h2, h3⟩ := div_fold hm zs hd zs.length (Nat.le_refl _)
  rw [Nat.sub_self, List.drop_zero, List.drop_zero] at h3
  generalize (divSt m (its zs hd zs.length)).2 = r at *
  generalize val (divSt m (its zs hd zs.length)).1 = q at *
  have := Nat.div_mod_unique hm (a := val zs) (c := r) (d := q)
  have h := this.2 ⟨by rw [Nat.mul_comm]; omega, h2⟩
  exact ⟨h.1.symm, h.2.symm⟩
def DivI (m Bm Bq Br g : Nat) (n : Nat) (w : World) (pre : List (Item n)) (W : World) : Prop :=
  (W.cell? ⟨Bm, 0, none⟩ = some (.int .u32 (m : Int)) ∧ W.cell? ⟨Bq, 0, none⟩ = some (.slice (some ⟨g, 0, none⟩) n n) ∧ W.cell? ⟨Br, 0, none⟩ = some (.int .u32 ((divSt m pre).2 : Int)) ∧ W.frozen? ⟨Br, 0, none⟩ = false ∧
    (divSt m pre).2 < m ∧ OwnU W w.heap.size g n (divSt m pre).1) ∧ Below w.heap.size w W
theorem drawn_cells {W w2 : World} {a b c d : Addr} {x y z u : Value} {p q : Bool} (h : ∃ n, w2 = W.drew.drewN n) (h1 : W.cell? a = some x) (h2 : W.cell? b = some y) (h3 : W.cell? c = some z) (h4 : W.frozen? c = p) (h5 : W.cell? d = some u) (h6 : W.frozen? d = q) :
    w2.cell? a = some x ∧ w2.cell? b = some y ∧ w2.cell? c = some z ∧ w2.frozen? c = p ∧ w2.cell? d = some u ∧ w2.frozen? d = q := by
  obtain ⟨n, rfl⟩ := h
  exact ⟨h1, h2, h3, h4, h5, h6⟩
theorem keepsOthers_drewN (W : World) (n : Nat) : KeepsOthers W (W.drewN n) := ⟨Nat.le_refl _, fun _ _ h _ => h⟩
theorem BackK.drewN {n₀ Bs : Nat} {W W' : World} (h : BackK n₀ Bs W W') (n : Nat) : BackK n₀ Bs W (W'.drewN n) := ⟨below_drewN h.1 n, h.2⟩
theorem OwnU.drewN {w : World} {base g n : Nat} {rs : List Nat} (h : OwnU w base g n rs) (k : Nat) : OwnU (w.drewN k) base g n rs := h
/-- What the statement reads, and nobody writes within it. -/
def DivS (Bm Bq m g n : Nat) (w' : World) : Prop := w'.cell? ⟨Bm, 0, none⟩ = some (.int .u32 (m : Int)) ∧ w'.cell? ⟨Bq, 0, none⟩ = some (.slice (some ⟨g, 0, none⟩) n n)
/-- What a round leaves of memory. -/
def DivEnd (W : World) (g Br i q r : Nat) (w' : World) : Prop := ∃ nq, w' = ((W.setCell ⟨g, i, none⟩ (.int .u32 (q : Int))).setCell ⟨Br, 0, none⟩ (.int .u32 (r : Int))).drewN nq
/-- What Div leaves, in new memory. -/
def RetDF (q r : Nat) (w : World) (e : Ending) (w' : World) : Prop :=
  ∃ A c rs, e = .returned (.tuple #[.slice A rs.length c, .int .u32 (r : Int)]) ∧ Us w' A c rs ∧ Canon rs ∧ val rs = q ∧ Below w.heap.size w w' ∧ (∀ a, A = some a → w.heap.size ≤ a.block)
set_option maxRecDepth 100000 in
set_option maxHeartbeats 3200000 in
theorem div_yesF (A : Option Addr) (c : Nat) (xs : List Nat) (m : Nat) (w : World) (h : Us w A c xs) (hl : xs.length ≤ 1000000) (hm : 0 < m) (hmm : m < 4294967296) :
    Calls Tryd.prog 37 #[.slice A xs.length c, .int .u32 (m : Int)] w (RetDF (val xs / m) (val xs % m) w) := by
  obtain ⟨i0, hi, hz0, hz1, hz2⟩ := info_parts Tryd.infoU
  have hd := h.1
  have HH := Lib.hid h
  have HI := Lib.hid (And.intro hi (And.intro hz0 (And.intro hz1 hz2)))
  clear h hi hz0 hz1 hz2
  have m0 : ((m : Int) == 0) = false := by rw [beq_eq_false_iff_ne]; omega
  have c0 := cell_new_l w (.int .u32 (m : Int)) 48
  refine calls_of_wide Tryd.func37 rfl ?_
  simp only [Tryd.ntmps37, List.size_toArray, List.length_cons, List.length_nil, Nat.reduceAdd, Nat.reduceSub, Array.replicate_succ, Array.replicate_zero, List.push_toArray, List.append_toArray, List.nil_append, List.cons_append]
  go_wp2_with (first
    | (at_make; refine wpList_make_full _ rfl _ _ 22 rfl w.heap.size 48 i0 _ 1 Tryd.underlying22 HI.out.1 HI.out.2.1 HI.out.2.2.1 .i64 .i64 _ _ xs.length rfl rfl (by omega) (by omega) (by rw [HI.out.2.2.2]; omega) (by unfold maxLen; omega) (by simp) ?_; intro w0 hown0 hgrow0)
    | (go_at_call 46; refine (back_any _ _ _ _).mono ?_; rintro e w' ⟨rfl, rfl⟩))
  simp only [World.size_alloc] at hown0
  have own0 := OwnU.made hown0
  have c0' := cell_kept c0.1 hgrow0 (fun r e => by cases e)
  have c1 := cell_new_l w0 (.slice (some ⟨w.heap.size + 1, 0, none⟩) xs.length xs.length) 22
  have c2 := cell_new_l (w0.alloc (.cells #[.slice (some ⟨w.heap.size + 1, 0, none⟩) xs.length xs.length] 22)) (.int .u32 0) 48
  have c3 := cell_new_l ((w0.alloc (.cells #[.slice (some ⟨w.heap.size + 1, 0, none⟩) xs.length xs.length] 22)).alloc (.cells #[.int .u32 0] 48)) (.slice A xs.length c) 22
  simp only [World.size_alloc] at c2 c3
  have hb0 : Below w.heap.size w w0 := ((Below.refl _ w).alloc (Nat.le_refl _) _).grown hgrow0 (by simp) (fun k hk => by cases hk)
  have hg0 := own0.lt
  obtain ⟨W1, hW1⟩ : ∃ W1, ((w0.alloc (.cells #[.slice (some ⟨w.heap.size + 1, 0, none⟩) xs.length xs.length] 22)).alloc (.cells #[.int .u32 0] 48)).alloc (.cells #[.slice A xs.length c] 22) = W1 := ⟨_, rfl⟩
  have hbW : Below w.heap.size w W1 := by rw [← hW1]; exact ((hb0.alloc hb0.size _).alloc (by simp; have := hb0.size; omega) _).alloc (by simp; have := hb0.size; omega) _
  have hb01 : Below w0.heap.size w0 W1 := by rw [← hW1]; exact (((Below.refl _ w0).alloc (Nat.le_refl _) _).alloc (by simp) _).alloc (by simp; omega) _
  have hsz : W1.heap.size = w0.heap.size + 3 := by rw [← hW1]; simp
  have I0 : DivI m w.heap.size w0.heap.size (w0.heap.size + 1) (w.heap.size + 1) xs.length w [] W1 := by
    refine ⟨⟨(hb01.cell (p := ⟨w.heap.size, 0, none⟩) (show w.heap.size < w0.heap.size by omega)).trans c0', ?_, ?_, ?_, hm, own0.below hb01⟩, hbW⟩
    · rw [← hW1]; exact cell_alloc_l _ (cell_alloc_l _ c1.1)
    · rw [← hW1]; exact cell_alloc_l _ c2.1
    · rw [← hW1]; exact frozen_alloc_l _ c2.1 c2.2
  rw [hW1]
  have c3' : W1.cell? ⟨w0.heap.size + 1 + 1, 0, none⟩ = some (.slice A xs.length c) := by rw [← hW1]; exact c3.1
  have HSZ := Lib.hid hsz
  have hs1 : w0.heap.size + 3 ≤ W1.heap.size := by omega
  clear hW1 c0 c0' c1 c2 c3 own0 hown0 hgrow0 hb01 hsz m0 HI
  refine wpIn_wide.1 (wpIn_rangeFunc_ownF (n := 4) rfl (by decide) (gf := 53) (lb := #[.pointer (some ⟨w0.heap.size + 1 + 1, 0, none⟩)]) rfl trivial (enters_of Tryd.func53 (by kernel_rfl) rfl)
    (back_stops Fence.wide 3 trivial rfl (by decide) (w0.heap.size + 1 + 1) w.heap.size c A xs hd hl w W1 (by omega) hbW.size c3' HH.out rfl hbW) BackK.trans (BackK.b hbW.size (by omega)) (Below.refl _ _) (fun _ => rfl)
    (DivI m w.heap.size w0.heap.size (w0.heap.size + 1) (w.heap.size + 1) xs.length w) (fun _ _ _ => False)
    (OwnFrom.and (Own.from (fun s A B row hs hg hr => ⟨cell_kept hs.1 hg hr, cell_kept hs.2.1 hg hr, cell_kept hs.2.2.1 hg hr, (frozen_kept hs.2.2.1 hg hr).trans hs.2.2.2.1, hs.2.2.2.2.1, hs.2.2.2.2.2.keptG hg hr⟩) _) (ownFrom_below (Nat.le_refl _) hbW.size))
    (fun _ _ _ _ _ hs _ _ => hs)
    I0
    (fun x => { tmps := #[.slice A xs.length c, .int .u32 (m : Int), undef, .pointer (some ⟨w.heap.size, 0, none⟩), .slice none 0 0, .int .u32 0, .pointer (some ⟨w0.heap.size, 0, none⟩), .pointer (some ⟨w0.heap.size + 1, 0, none⟩), .int .i64 (x.1.1 : Int), .int .u32 (x.1.2 : Int),
      .int .u32 (m : Int), .bool false, .slice A xs.length c, .int .i64 (xs.length : Int), .slice (some ⟨w.heap.size + 1, 0, none⟩) xs.length xs.length, .slice A xs.length c, .func (.func 53) #[] #[.pointer (some ⟨w0.heap.size + 1 + 1, 0, none⟩)], .int .i64 (x.1.1 : Int), .int .u32 (x.1.2 : Int),
      undef, undef, undef, undef, undef, undef, undef, undef, undef, undef, undef, undef, undef], defers := [] }) ?assign ?body ?done ?stop)
  case assign =>
    intro l x W K hK
    unfold itemE
    gi_wp2
    exact hK
  case body =>
    rintro l pre x W hI hpre
    obtain ⟨⟨i, y⟩, hxi⟩ := x
    have hi' : i < xs.length := hxi.1 (by omega)
    have hy : y < 4294967296 := hxi.2
    dsimp only
    obtain ⟨⟨e1, e2, e3, e4, e5, e6⟩, hB⟩ := id hI
    have ec := e6.cell hi'
    have ef := e6.free i
    have hgs := e6.lt
    have hmx : Tryd.prog.follows .mixedOrders = true := by kernel_rfl
    obtain ⟨rr, hrr⟩ : ∃ rr, rr = (divSt m pre).2 := ⟨_, rfl⟩
    rw [← hrr] at e3 e5
    have HRR := Lib.hid hrr
    have HI := Lib.hid hI
    clear hrr hB e6 hI c3' I0 hbW hb0 HH hd hpre
    gi_wp2
    refine wpIn_mono (Q := NormalIn (fun _ _ w' => DivEnd W (w.heap.size + 1) (w0.heap.size + 1) i (divQ rr y m) (divR rr y m) w')) ?reg ?rest
    case rest =>
      rintro e a w' h
      cases e <;> first
        | exact False.elim h
        | skip
      obtain ⟨nq, rfl⟩ := h
      obtain ⟨⟨-, -, -, -, -, E6⟩, HB⟩ := HI.out
      have hrr := HRR.out
      gi_wp2
      refine ⟨KeepsOthers.trans ((KeepsOthers.setCell _ _ _).trans (KeepsOthers.setCell _ _ _)) (keepsOthers_drewN _ _), BackK.drewN (((BackK.refl _ _ W).setCell (p := ⟨w.heap.size + 1, i, none⟩) (by simp) (by simp <;> omega) _).setCell (p := ⟨w0.heap.size + 1, 0, none⟩) (by simp <;> omega) (by simp) _) _, ⟨?_, ?_, ?_, ?_, ?_, ?_⟩, ?_⟩
      · show World.cell? (World.setCell _ _ _) _ = _
        rw [World.cell?_setCell_other _ _ _ _ (by simp <;> omega), World.cell?_setCell_other _ _ _ _ (by simp)]
        exact e1
      · show World.cell? (World.setCell _ _ _) _ = _
        rw [World.cell?_setCell_other _ _ _ _ (by simp), World.cell?_setCell_other _ _ _ _ (by simp <;> omega)]
        exact e2
      · show World.cell? (World.setCell _ _ _) _ = _
        rw [divSt_snoc]
        unfold divStep
        rw [← hrr]
        refine World.cell?_setCell_same' _ _ _ ?_
        rw [World.cell?_setCell_other _ _ _ _ (by simp <;> omega), e3]
        rfl
      · show World.frozen? (World.setCell _ _ _) _ = _
        rw [World.frozen?_setCell, World.frozen?_setCell]
        exact e4
      · rw [divSt_snoc]
        unfold divStep
        rw [← hrr]
        exact divR_lt e5
      · rw [divSt_snoc]
        unfold divStep
        rw [← hrr]
        exact ((E6.set i (divQ_lt e5 hy)).far (p := ⟨w0.heap.size + 1, 0, none⟩) (by simp <;> omega) _).drewN _
      · exact below_drewN ((HB.setCell (p := ⟨w.heap.size + 1, i, none⟩) (by simp) _).setCell (p := ⟨w0.heap.size + 1, 0, none⟩) (by simp <;> omega) _) _
    case reg =>
      rename_i K0 hK0 Q0
      clear Q0 hK0 K0 HI HRR hxi HSZ
      generalize (divSt m pre).1[i]?.getD 0 = old at ec
      have hg1 : w.heap.size + 1 < w0.heap.size := hg0
      clear hs1 hgs hg0 pre
      generalize xs.length = n at *
      refine round_held (DivS w.heap.size w0.heap.size m (w.heap.size + 1) n) (by kernel_rfl) (by kernel_rfl) ?_
      have hs0 : DivS w.heap.size w0.heap.size m (w.heap.size + 1) n W.drew := ⟨e1, e2⟩
      refine wpAnyH_take (i := 0) (v := .slice (some ⟨w.heap.size + 1, 0, none⟩) n n) rfl (by kernel_rfl) (by kernel_rfl) (by kernel_rfl) (fun _ _ _ h => h) (Or.inl ⟨by rfl, ?_⟩) hs0 ?_
      · rintro w' ⟨s1, s2⟩
        go_simp
      simp only [Act.put, List.setIfInBounds_toArray, List.set_cons_zero, List.set_cons_succ]
      refine wpAnyH_take (i := 1) (v := .int .i64 (i : Int)) rfl (by kernel_rfl) (by kernel_rfl) (by kernel_rfl) (fun _ _ _ h => h) (Or.inl ⟨by rfl, ?_⟩) hs0 ?_
      · rintro w' ⟨s1, s2⟩
        go_simp
      simp only [Act.put, List.setIfInBounds_toArray, List.set_cons_zero, List.set_cons_succ]
      refine wpAnyH_take (i := 3) (v := .int .u32 (y : Int)) rfl (by kernel_rfl) (by kernel_rfl) (by kernel_rfl) (fun _ _ _ h => h) (Or.inl ⟨by rfl, ?_⟩) hs0 ?_
      · rintro w' ⟨s1, s2⟩
        go_simp
      simp only [Act.put, List.setIfInBounds_toArray, List.set_cons_zero, List.set_cons_succ]
      refine wpAnyH_take (i := 4) (v := .int .u32 (m : Int)) rfl (by kernel_rfl) (by kernel_rfl) (by kernel_rfl) (fun _ _ _ h => h) (Or.inl ⟨by rfl, ?_⟩) hs0 ?_
      · rintro w' ⟨s1, s2⟩
        go_simp
      simp only [Act.put, List.setIfInBounds_toArray, List.set_cons_zero, List.set_cons_succ]
      refine wpAnyH_ready (rs := [2]) (by kernel_rfl) (by simp) (AllReadyH.cons rfl (fun K hK => ?_) AllReadyH.nil)
      go_simp
      refine hK.out _ _ hs0 (fun _ => ?_)
      clear hK K
      refine wpAnyH_ready (rs := [5]) (by kernel_rfl) (by simp) (AllReadyH.cons rfl (fun K hK => ?_) AllReadyH.nil)
      go_simp
      refine (div32_any rr y m _ e5 hy hmm).mono ?_
      rintro e w2 ⟨rfl, hw2⟩
      obtain ⟨f1, f2, f3, f4, f5, f6⟩ := drawn_cells hw2 e1 e2 e3 e4 ec ef
      have hs2 : DivS w.heap.size w0.heap.size m (w.heap.size + 1) n w2 := ⟨f1, f2⟩
      go_simp
      refine hK.out _ _ hs2 (fun _ => ?_)
      clear hK K
      generalize divQ rr y m = q at *
      generalize divR rr y m = r at *
      refine wpAnyH_take (i := 6) (v := Value.tuple #[.int .u32 (q : Int), .int .u32 (r : Int)]) rfl (by kernel_rfl) (by kernel_rfl) (by kernel_rfl) (fun _ _ _ h => h) (Or.inl ⟨by rfl, ?_⟩) hs2 ?_
      · rintro w' ⟨s1, s2⟩
        go_simp
      simp only [Act.put, List.setIfInBounds_toArray, List.set_cons_zero, List.set_cons_succ]
      refine wpAnyH_take (i := 7) (v := .int .u32 (q : Int)) rfl (by kernel_rfl) (by kernel_rfl) (by kernel_rfl) (fun _ _ _ h => h) (Or.inl ⟨by rfl, ?_⟩) hs2 ?_
      · rintro w' ⟨s1, s2⟩
        go_simp
      simp only [Act.put, List.setIfInBounds_toArray, List.set_cons_zero, List.set_cons_succ]
      refine wpAnyH_take (i := 8) (v := .int .u32 (r : Int)) rfl (by kernel_rfl) (by kernel_rfl) (by kernel_rfl) (fun _ _ _ h => h) (Or.inl ⟨by rfl, ?_⟩) hs2 ?_
      · rintro w' ⟨s1, s2⟩
        go_simp
      simp only [Act.put, List.setIfInBounds_toArray, List.set_cons_zero, List.set_cons_succ]
      refine wpAnyH_take (i := 9) (v := .pointer (some ⟨w.heap.size + 1, i, none⟩)) rfl (by kernel_rfl) (by kernel_rfl) (by kernel_rfl) (fun _ _ _ h => h) (Or.inl ⟨by rfl, ?_⟩) hs2 ?_
      · rintro w' ⟨s1, s2⟩
        go_simp
      simp only [Act.put, List.setIfInBounds_toArray, List.set_cons_zero, List.set_cons_succ]
      refine wpAnyH_ready (rs := [10]) (by kernel_rfl) (by simp) (AllReadyH.cons rfl (fun K hK => ?_) AllReadyH.nil)
      go_simp
      have g2 : (w2.setCell ⟨w.heap.size + 1, i, none⟩ (.int .u32 (q : Int))).cell? ⟨w0.heap.size, 0, none⟩ = some (.slice (some ⟨w.heap.size + 1, 0, none⟩) n n) := by
        rw [World.cell?_setCell_other _ _ _ _ (by simp <;> omega)]; exact f2
      have g1 : (w2.setCell ⟨w.heap.size + 1, i, none⟩ (.int .u32 (q : Int))).cell? ⟨w.heap.size, 0, none⟩ = some (.int .u32 (m : Int)) := by
        rw [World.cell?_setCell_other _ _ _ _ (by simp <;> omega)]; exact f1
      have g3 : (w2.setCell ⟨w.heap.size + 1, i, none⟩ (.int .u32 (q : Int))).cell? ⟨w0.heap.size + 1, 0, none⟩ = some (.int .u32 (rr : Int)) := by
        rw [World.cell?_setCell_other _ _ _ _ (by simp <;> omega)]; exact f3
      have g4 : (w2.setCell ⟨w.heap.size + 1, i, none⟩ (.int .u32 (q : Int))).frozen? ⟨w0.heap.size + 1, 0, none⟩ = false := by
        rw [World.frozen?_setCell]; exact f4
      refine hK.out _ _ ⟨g1, g2⟩ (fun _ => ?_)
      clear hK K
      refine wpAnyH_ready (rs := [11]) (by kernel_rfl) (by simp) (AllReadyH.cons rfl (fun K hK => ?_) AllReadyH.nil)
      go_simp
      refine hK.out _ _ ⟨?_, ?_⟩ (fun _ => ?_)
      · rw [World.cell?_setCell_other _ _ _ _ (by simp <;> omega)]; exact g1
      · rw [World.cell?_setCell_other _ _ _ _ (by simp <;> omega)]; exact g2
      refine wpAnyH_done (by kernel_rfl) ?_ _
      obtain ⟨nq, rfl⟩ := hw2
      exact ⟨nq + 1, by simp only [World.drewN, World.drew, World.setCell, Nat.add_assoc, Nat.add_comm 1]⟩
  case done =>
    rintro D ys W hD rfl ⟨⟨e1, e2, e3, e4, e5, e6⟩, hB⟩ hK
    have hv := div_all hm xs hd
    obtain ⟨rm, hrm⟩ : ∃ rm, rm = val xs % m := ⟨_, rfl⟩
    rw [hv.2, ← hrm] at e3 e5
    have HRM := Lib.hid hrm
    clear hrm
    have HV := Lib.hid hv.1
    have RD := Lib.hid e6.reads
    have HL := Lib.hid e6.2.1
    have HB := Lib.hid hB
    have hDs := (Array.getElem?_eq_some_iff.1 hK).1
    have HK := Lib.hid hK
    clear hv e6 hB hK
    go_wp2_with fail
    refine wp_normalOnly ?_
    have hsW : w0.heap.size + 1 < W.heap.size := by omega
    go_region_with (go_at_call 45; refine (trim_ofF (w := W.drew) RD.out HL.out hl).mono ?_; rintro e w3 ⟨A3, c3, r3, rfl, q3, k3, v3, b3, n3⟩; have HF := Lib.hid n3; clear n3; have e3' := (b3.cell (p := ⟨w0.heap.size + 1, 0, none⟩) hsW).trans e3; have HR := Lib.hid (And.intro q3 (And.intro k3 (And.intro v3 b3))); clear q3 k3 v3 b3)
    all_goals
      unfold NormalOnly
      go_wp2_with fail
      have q3 := HR.out.1
      have b3 := HR.out.2.2.2
      have hK3 := (b3.block D hDs).trans HK.out
      refine ⟨by simp, .inl ⟨_, _, rfl, run_takeDeferred hK3, ?_⟩⟩
      have hb4 := belowK_b (w := w) (Nat.le_refl _) w3 D _ (.deferred none) (by have := hbW.size; omega) hK3 rfl rfl
      have q4 := q3.keptG (grownBy_putObj' w3 D (.deferred none)) (fun r e => by cases e; exact ⟨_, hK3, rfl⟩)
      refine ⟨_, results_tmp2 rfl _ _ _, A3, c3, r3, ?_, q4, HR.out.2.1, HR.out.2.2.1.trans HV.out, (Below.trans (below_drewN HB.out 1) (b3.mono HB.out.size)).trans hb4, fun a ha => by rcases HF.out with h | h <;> rw [h] at ha <;> cases ha; simp⟩
      rw [← HRM.out]
      rfl
  case stop =>
    rintro D cd pre W _ _ h _
    exact h.elim
end Go.Proofs.YteekijmhghokkaaDoor
