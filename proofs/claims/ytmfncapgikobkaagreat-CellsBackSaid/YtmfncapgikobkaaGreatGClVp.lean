/-
  cells: slices of cells that the call has made; append.
  cells.within, cells.least.
  cells.least: the least level of a root that has all cells.
  cells: a row of cells that is made, and filled one by one.
  cells: a row of numbers that is made, and filled one by one.
  cells: a tree's cells as a list, how many they are; quads with the same cells are one; plain.
  cells: the quad of a list of cells, said by what it is; the cells of a list's last node; plain.
  cells: how many cells nodes have; plain.
  cells.Count: how many cells a quad has.
  A drawn region walked state by state: orders that come to one state are walked once.
  cells: a node's cells, kid by kid; plain.
-/
import Derived.Test.YtmfncapgikobkaaGreatGClSt
import Derived.Test.YtmfncapgikobkaaGreatGNcRV
import Derived.Test.YtmfncapgikobkaaGreatGNdsW
import Derived.Test.YtmfncapgikobkaaGreatGClM
import Derived.Test.YtmfncapgikobkaaGreatGNcKM
import Derived.Deep.RegionHeld3
import Derived.Deep.RegionWith
import Derived.StillTailTactics
import Derived.Deep.RegionHeld

namespace Go.Proofs.YtmfncapgikobkaaGreat
set_option maxRecDepth 100000
set_option linter.unusedVariables false
set_option linter.unusedSimpArgs false
open Go.RowKit Nds
theorem Tryz.infoC : (Tryz.prog.info? 47).map (fun i => (i.zero, i.size, i.bytes)) = some (some (cvv cv0), 5, 72) := by kernel_rfl
def cvcs (l : List Cv) : List Value := l.flatMap encC
theorem cvcs_len (l : List Cv) : (cvcs l).length = l.length * 5 := by
 unfold cvcs
 induction l with
 | nil => rfl
 | cons x l ih =>
  rw [List.flatMap_cons, List.length_append, ih, List.length_cons]
  show 5 + _ = _
  omega
theorem cvcs_app (l m : List Cv) : cvcs (l ++ m) = cvcs l ++ cvcs m := by
 unfold cvcs
 rw [List.flatMap_append]
theorem cvcs_at : ∀ (l : List Cv) (i j : Nat), i < l.length → j < 5 → (cvcs l)[i * 5 + j]? = (encC (cat l i))[j]?
 | [], i, _, hi, _ => by simp at hi
 | x :: l, 0, j, _, hj => by
  show (encC x ++ cvcs l)[0 * 5 + j]? = _
  rw [List.getElem?_append_left (by show _ < 5; omega), show 0 * 5 + j = j by omega]
  rfl
 | x :: l, i + 1, j, hi, hj => by
  show (encC x ++ cvcs l)[(i + 1) * 5 + j]? = _
  rw [List.getElem?_append_right (by show 5 ≤ _; omega), show (i + 1) * 5 + j - (encC x).length = i * 5 + j by show _ - 5 = _; omega, cvcs_at l i j (by simpa using hi) hj]
  rfl
theorem cvcs_one (l : List Cv) : ∀ u ∈ cvcs l, u.oneCell' = true := fun u hu => by
 obtain ⟨x, _, hx⟩ := List.mem_flatMap.1 hu
 exact encC_one x u hx
def OwnC (w : World) (base : Nat) (v : Value) (l : List Cv) : Prop := w.ownsRow base 47 5 v l.length (cvcs l)
theorem OwnC.shape {w : World} {base : Nat} {v : Value} {l : List Cv} (h : OwnC w base v l) :
  ∃ A c, v = .slice A l.length c ∧ l.length ≤ c ∧ c ≤ maxLen ∧ (A = none → c = 0 ∧ l = []) ∧ (∀ a, A = some a → ∃ g, a = ⟨g, 0, none⟩ ∧ base ≤ g ∧ g < w.heap.size ∧ (∀ i, i < l.length → CvAt w g (i * 5) (cat l i)) ∧ ∀ o, w.frozen? ⟨g, o, none⟩ = false) := by
 rcases h.2 with ⟨h', hn⟩ | ⟨g, cap, cur, h', hb, hg, hnc, hcm, hcs, htake⟩
 ·
  refine ⟨none, 0, by rw [h', hn], by omega, by simp [maxLen], fun _ => ⟨rfl, List.eq_nil_of_length_eq_zero hn⟩, (fun a e => by cases e)⟩
 ·
  refine ⟨some ⟨g, 0, none⟩, cap, h', hnc, hcm, (fun e => by cases e), fun a e => ?_⟩
  cases e
  have hlt : g < w.heap.size := by
   rcases Nat.lt_or_ge g w.heap.size with hlt | hge
   ·
    exact hlt
   ·
    rw [Array.getElem?_eq_none hge] at hg; cases hg
  refine ⟨g, rfl, hb, hlt, fun i hi => ?_, fun o => frozen_of_row _ _ _ _ _ hg⟩
  have hcell : ∀ j, j < 5 → w.cell? ⟨g, i * 5 + j, none⟩ = (encC (cat l i))[j]? := by
   intro j hj
   have hlt : i * 5 + j < l.length * 5 := by omega
   rw [cell_of_row w g (i * 5 + j) cur _ (0, 0) hg, ← cvcs_at l i j hi hj, ← htake, List.getElem?_take, if_pos hlt]
   simp
  exact ⟨hcell 0 (by omega), hcell 1 (by omega), hcell 2 (by omega), hcell 3 (by omega), hcell 4 (by omega)⟩
theorem OwnC.nil (w : World) (base : Nat) : OwnC w base (.slice none 0 0) [] := World.ownsRow_nil w base _ 5
theorem OwnC.kept {w w' : World} {base : Nat} {v : Value} {l : List Cv} {row : Option Nat} (h : OwnC w base v l) (hg : w.grownBy w' row) (hv : v.ownBlock = none ∨ v.ownBlock ≠ row) : OwnC w' base v l := World.ownsRow.kept h hg hv
theorem OwnC.alloc {w : World} {base : Nat} {v : Value} {l : List Cv} (h : OwnC w base v l) (o : Obj) : OwnC (w.alloc o) base v l := h.kept (World.grownBy_alloc w o none) (by cases v.ownBlock <;> simp)
theorem OwnC.lt {w : World} {base : Nat} {v : Value} {l : List Cv} (h : OwnC w base v l) : ∀ k, v.ownBlock = some k → base ≤ k ∧ k < w.heap.size := World.ownsRow.lt h
theorem OwnC.cs {w : World} {base : Nat} {v : Value} {l : List Cv} (h : OwnC w base v l) (hu : ∀ x ∈ l, CvU w x) : ∃ A c, v = .slice A l.length c ∧ Cs w A c l ∧ (A = none → c = 0) ∧ ∀ a, A = some a → base ≤ a.block := by
 obtain ⟨A, c, h1, h2, h3, h4, h5⟩ := h.shape
 refine ⟨A, c, h1, ⟨hu, h2, h3, fun hn => ?_⟩, fun e => (h4 e).1, fun a e => ?_⟩
 ·
  cases A with
  | none => have := (h4 rfl).2; subst this; exact absurd hn (Nat.lt_irrefl 0)
  | some a =>
   obtain ⟨g, rfl, hg, hlt, hc, _⟩ := h5 a rfl
   exact ⟨g, 0, rfl, hlt, fun i hi => by rw [Nat.zero_add]; exact hc i hi⟩
 ·
  obtain ⟨g, rfl, hg, _⟩ := h5 a e
  exact hg
theorem cell_box (w : World) (x : Cv) : ∀ j u, (cvcs [x])[j]? = some u → (w.alloc (.cells #[.bool x.sx, .slice x.ax x.xs.length x.cx, .bool x.sy, .slice x.ay x.ys.length x.cy, .int .u8 x.st] 47)).cell? ((⟨w.heap.size, 0, none⟩ : Addr).add j) = some u := by
 intro j u hu
 have hj := (List.getElem?_eq_some_iff.1 hu).1
 rw [cvcs_len] at hj
 obtain ⟨h0, h1, h2, h3, h4⟩ := CvAt.new w x 47
 rw [Nat.zero_add] at h1 h2 h3 h4
 have hj5 : j < 5 := by simpa using hj
 have hadd : (⟨w.heap.size, 0, none⟩ : Addr).add j = ⟨w.heap.size, j, none⟩ := by
  unfold Addr.add
  split
  ·
   rename_i h; subst h; rfl
  ·
   simp
 rw [hadd]
 match j, hj5 with
 | 0, _ => rw [h0]; exact hu
 | 1, _ => rw [h1]; exact hu
 | 2, _ => rw [h2]; exact hu
 | 3, _ => rw [h3]; exact hu
 | 4, _ => rw [h4]; exact hu
theorem run_append_cells (w : World) (base : Nat) (v : Value) (xs ys : List Cv) (ty : TypeId) (ad : Addr) (m c : Nat) (how : OwnC w base v xs) (hN : ∀ j u, (cvcs ys)[j]? = some u → w.cell? (ad.add j) = some u) (hm : ys.length = m) (hs : xs.length + m ≤ 1000000) (hb : base ≤ w.heap.size) :
  ∃ v' w', (Builtin.append_ #[22, 22] ty #[v, .slice (some ad) m c]).run Tryz.prog w = .ok v' w' ∧ OwnC w' base v' (xs ++ ys) ∧ w.grownBy w' v.ownBlock ∧ (v'.ownBlock = v.ownBlock ∨ v'.ownBlock = some w.heap.size) := by
 obtain ⟨i0, hi, hz0, hz1, hz2⟩ := info_parts Tryz.infoC
 obtain ⟨v', w', hrun, h2, h3, _, h5⟩ := run_append_own_at (P := Tryz.prog) w base 22 ty 47 i0 (cvv cv0) 5 72 Tryz.underlying22 hi hz0 hz1 hz2 rfl (by omega) v xs.length (cvcs xs) how ad m c (cvcs ys) (by rw [cvcs_len, hm]) hN (cvcs_one ys) (by simp only [maxLen]; omega) (by omega) hb
 refine ⟨v', w', hrun, ?_, h3, h5⟩
 unfold OwnC
 rw [cvcs_app, List.length_append, hm]
 exact h2
theorem wpList_append_cell (w : World) {ops : Array Oper} {rest : List Oper} {o : Oper} {a : Act} {Q : Exit → Act → World → Prop} (hg : o.guard = none) (s x : Operand)
  (hop : o.op = Op.call { callee := Callee.builtin Builtin.append, args := #[s, x], argTypes := #[22, 22] }) (base : Nat) (v : Value) (xs : List Cv) (y : Cv) (ad : Addr) (c : Nat)
  (hs : a.eval s = v) (hx : a.eval x = .slice (some ad) 1 c) (how : OwnC w base v xs) (hN : ∀ j u, (cvcs [y])[j]? = some u → w.cell? (ad.add j) = some u) (hsz : xs.length + 1 ≤ 1000000) (hb : base ≤ w.heap.size)
  (hK : ∀ v' w', OwnC w' base v' (xs ++ [y]) → w.grownBy w' v.ownBlock → (v'.ownBlock = v.ownBlock ∨ v'.ownBlock = some w.heap.size) → wpList Tryz.prog ops Q rest (a.put o.dst v') w') :
  wpList Tryz.prog ops Q (o :: rest) a w := by
 refine wpList_plain hg fun K hK' => ?_
 obtain ⟨v', w', hrun, h1, h2, h3⟩ := run_append_cells w base v xs [y] o.type ad 1 c how hN rfl hsz hb
 unfold Oper.wp execOp
 simp only [hop, resolve, invoke, builtin, Sem.run_bind, Sem.run_pure, Result.andThen_ok, List.map_toArray, List.map_cons, List.map_nil, hs, hx, hrun]
 exact hK' _ _ (hK v' w' h1 h2 h3)
theorem oper_append_cell {w : World} {o : Oper} {a : Act} {K : Act → World → Prop} {Q : Exit → Act → World → Prop} (s x : Operand)
  (hop : o.op = Op.call { callee := Callee.builtin Builtin.append, args := #[s, x], argTypes := #[22, 22] }) (base : Nat) (v : Value) (xs : List Cv) (y : Cv) (ad : Addr) (c : Nat)
  (hs : a.eval s = v) (hx : a.eval x = .slice (some ad) 1 c) (how : OwnC w base v xs) (hN : ∀ j u, (cvcs [y])[j]? = some u → w.cell? (ad.add j) = some u) (hsz : xs.length + 1 ≤ 1000000) (hb : base ≤ w.heap.size)
  (h : ∀ v' w', OwnC w' base v' (xs ++ [y]) → w.grownBy w' v.ownBlock → (v'.ownBlock = v.ownBlock ∨ v'.ownBlock = some w.heap.size) → K (a.put o.dst v') w') : Oper.wp Tryz.prog o a w K Q := by
 obtain ⟨v', w', hrun, h1, h2, h3⟩ := run_append_cells w base v xs [y] o.type ad 1 c how hN rfl hsz hb
 unfold Oper.wp execOp
 simp only [hop, resolve, invoke, builtin, Sem.run_bind, Sem.run_pure, Result.andThen_ok, List.map_toArray, List.map_cons, List.map_nil, hs, hx, hrun]
 exact h v' w' h1 h2 h3
end Go.Proofs.YtmfncapgikobkaaGreat

namespace Go.Proofs.YtmfncapgikobkaaGreat
set_option maxRecDepth 100000
set_option linter.unusedVariables false
set_option linter.unusedSimpArgs false
open Go.RowKit Nds Num
structure PB (w : World) (B : Nat) (x y : Bool × Option Addr × Nat × List Nat) (W : World) : Prop where
 b : Below w.heap.size w W
 lw : w.heap.size ≤ B
 lt : B + 1 < W.heap.size
 x0 : W.cell? ⟨B, 0, none⟩ = some (.bool x.1)
 x1 : W.cell? ⟨B, 1, none⟩ = some (.slice x.2.1 x.2.2.2.length x.2.2.1)
 y0 : W.cell? ⟨B + 1, 0, none⟩ = some (.bool y.1)
 y1 : W.cell? ⟨B + 1, 1, none⟩ = some (.slice y.2.1 y.2.2.2.length y.2.2.1)
 ux : Us W x.2.1 x.2.2.1 x.2.2.2
 uy : Us W y.2.1 y.2.2.1 y.2.2.2
theorem PB.next {w : World} {B : Nat} {x y : Bool × Option Addr × Nat × List Nat} {W W1 : World} (h : PB w B x y W) (k : Below W.heap.size W W1) : PB w B x y W1 :=
 ⟨h.b.trans (k.mono h.b.size), h.lw, Nat.lt_of_lt_of_le h.lt k.size, (k.cell (p := ⟨B, 0, none⟩) (by have := h.lt; show B < _; omega)).trans h.x0, (k.cell (p := ⟨B, 1, none⟩) (by have := h.lt; show B < _; omega)).trans h.x1,
  (k.cell (p := ⟨B + 1, 0, none⟩) h.lt).trans h.y0, (k.cell (p := ⟨B + 1, 1, none⟩) h.lt).trans h.y1, h.ux.below k, h.uy.below k⟩
theorem PB.new (w : World) (s t : Bool) (A B : Option Addr) (c d : Nat) (xs ys : List Nat) (h : Us w A c xs) (k : Us w B d ys) :
  PB w w.heap.size (s, A, c, xs) (t, B, d, ys) ((w.alloc (.cells #[.bool s, .slice A xs.length c] 42)).alloc (.cells #[.bool t, .slice B ys.length d] 42)) := by
 obtain ⟨e1, e2, e3⟩ := box2 w (.bool s) (.slice A xs.length c) (.bool t) (.slice B ys.length d) 42
 exact ⟨e3, Nat.le_refl _, by simp, e1.1, e1.2.1, e2.1, e2.2.1, h.below e3, k.below e3⟩
theorem ordI_lt {a b : Int} : decide (ordI a b < 0) = decide (a < b) := by
 unfold ordI
 split
 ·
  rename_i h; rw [decide_eq_true h]; rfl
 ·
  rename_i h
  rw [decide_eq_false h]
  split <;> rfl
theorem ordI_ge {a b : Int} : decide (ordI a b ≥ 0) = decide (b ≤ a) := by
 unfold ordI
 split
 ·
  rename_i h; rw [decide_eq_false (by omega), decide_eq_false (by omega)]
 ·
  rename_i h
  rw [decide_eq_true (show b ≤ a by omega)]
  split <;> rfl
def inH (x h : Int) : Bool := decide (x < h) && decide (-h ≤ x)
set_option maxRecDepth 100000 in
set_option maxHeartbeats 3200000 in
theorem cwithin_any (s t_ : Bool) (A B : Option Addr) (c d : Nat) (xs ys : List Nat) (w : World) (h : Us w A c xs) (k : Us w B d ys) (hl : xs.length ≤ 60000) (kl : ys.length ≤ 50000) (hc : CanonI s xs) (kc : CanonI t_ ys) :
  Calls Tryz.prog 59 #[.agg #[.bool s, .slice A xs.length c], .agg #[.bool t_, .slice B ys.length d]] w fun e w' => e = .returned (.bool (inH (ival s xs) (ival t_ ys))) ∧ Below w.heap.size w w' := by
 have hcap := h.cap
 have kcap := k.cap
 obtain ⟨W, hW⟩ : ∃ W : World, W = (w.alloc (.cells #[.bool s, .slice A xs.length c] 42)).alloc (.cells #[.bool t_, .slice B ys.length d] 42) := ⟨_, rfl⟩
 have hP : PB w w.heap.size (s, A, c, xs) (t_, B, d, ys) W := by rw [hW]; exact PB.new w s t_ A B c d xs ys h k
 obtain ⟨X, hX⟩ : ∃ X, X = ival s xs := ⟨_, rfl⟩
 obtain ⟨H, hH⟩ : ∃ H, H = ival t_ ys := ⟨_, rfl⟩
 rw [← hX, ← hH]
 have HW := Lib.hid hW
 have st := hP.next (below_drewN (Below.refl _ W) 1)
 have HXX := Lib.hid hX
 have HHH := Lib.hid hH
 obtain ⟨k1, k2, k3, k4⟩ : W.cell? ⟨w.heap.size, 0, none⟩ = some (.bool s) ∧ W.cell? ⟨w.heap.size, 1, none⟩ = some (.slice A xs.length c) ∧ W.cell? ⟨w.heap.size + 1, 0, none⟩ = some (.bool t_) ∧ W.cell? ⟨w.heap.size + 1, 1, none⟩ = some (.slice B ys.length d) := ⟨hP.x0, hP.x1, hP.y0, hP.y1⟩
 have HC := Lib.hid hc
 have KC := Lib.hid kc
 have HL := Lib.hid hl
 have KL := Lib.hid kl
 rw [hW] at k1 k2 k3 k4
 rw [hW] at st
 clear h k hP hW hX hH hc kc
 have q0 : True := trivial
 by_cases hxh : X < H
 ·
  have HXH := Lib.hid hxh
  obtain ⟨r, hr⟩ : ∃ r, r = ordI X H := ⟨_, rfl⟩
  have t1 : decide (r < 0) = true := by rw [hr, ordI_lt]; exact decide_eq_true hxh
  have HRr := Lib.hid hr
  clear hr hxh
  obtain ⟨r2, hr2⟩ : ∃ r2, r2 = ordI X (-H) := ⟨_, rfl⟩
  have HR2 := Lib.hid hr2
  clear hr2
  go_enter Tryz.func59, Tryz.ntmps59
  go_wp2_with fail
  go_region_held3 (fun w' => w'.cell? ⟨w.heap.size, 0, none⟩ = some (.bool s) ∧ w'.cell? ⟨w.heap.size, 1, none⟩ = some (.slice A xs.length c) ∧ w'.cell? ⟨w.heap.size + 1, 0, none⟩ = some (.bool t_) ∧ w'.cell? ⟨w.heap.size + 1, 1, none⟩ = some (.slice B ys.length d))
   (first | go_keep | exact ⟨e1, e2, e3, e4⟩)
   (first
    | (go_at_call 83; refine (minus_any t_ B d ys _ (PB.uy (w := w) (B := w.heap.size) (x := (s, A, c, xs)) (y := (t_, B, d, ys)) st1) (by have := KL.out; omega)).mono ?_; rintro e w2 ⟨A2, c2, s2, r2_, rfl, u2, q2, v2, b2⟩; have st2 := st1.next b2; have q2w := q1; clear q1; have e1 := st2.x0; have e2 := st2.x1; have e3 := st2.y0; have e4 := st2.y1; dsimp only at e1 e2 e3 e4)
    | (have _t := q0; go_at_call 74; clear _t; refine (bcmp_any s t_ A B c d xs ys _ (PB.ux (w := w) (B := w.heap.size) (x := (s, A, c, xs)) (y := (t_, B, d, ys)) st) (PB.uy (w := w) (B := w.heap.size) (x := (s, A, c, xs)) (y := (t_, B, d, ys)) st) HL.out (by have := KL.out; omega) HC.out KC.out).mono ?_; rintro e w1 ⟨rfl, b1⟩; rw [← HXX.out, ← HHH.out, ← HRr.out]; have q1 := q0; clear q0; have st1 := st.next b1; have e1 := st1.x0; have e2 := st1.x1; have e3 := st1.y0; have e4 := st1.y1; dsimp only at e1 e2 e3 e4)
    | (have _t := q2w; go_at_call 74; clear _t; refine (bcmp_any s s2 A A2 c c2 xs r2_ _ (PB.ux (w := w) (B := w.heap.size) (x := (s, A, c, xs)) (y := (t_, B, d, ys)) st2) u2 HL.out (by have h1 := abs_of_len (s := t_) st2.uy.1 KL.out; exact Nat.le_trans (len_ival q2 v2 50000 (by rw [Int.natAbs_neg]; exact h1)) (by omega)) HC.out q2).mono ?_; rintro e w3 ⟨rfl, b3⟩; rw [← HXX.out, v2, ← HHH.out, ← HR2.out]; have st3 := st2.next b3; have e1 := st3.x0; have e2 := st3.x1; have e3 := st3.y0; have e4 := st3.y1; dsimp only at e1 e2 e3 e4))
  all_goals
   go_wp2_with fail
   go_ret
   refine ⟨?_, st3.b⟩
   unfold inH
   rw [decide_eq_true HXH.out, Bool.true_and, ← ordI_ge (a := X) (b := -H), ← HR2.out]
   rfl
 ·
  obtain ⟨r, hr⟩ : ∃ r, r = ordI X H := ⟨_, rfl⟩
  have t1 : decide (r < 0) = false := by rw [hr, ordI_lt]; exact decide_eq_false hxh
  have HRr := Lib.hid hr
  have HXH := Lib.hid hxh
  clear hr hxh
  go_enter Tryz.func59, Tryz.ntmps59
  go_wp2_with fail
  go_region_with (go_at_call 74; refine (bcmp_any s t_ A B c d xs ys _ (PB.ux (w := w) (B := w.heap.size) (x := (s, A, c, xs)) (y := (t_, B, d, ys)) st) (PB.uy (w := w) (B := w.heap.size) (x := (s, A, c, xs)) (y := (t_, B, d, ys)) st) HL.out (by have := KL.out; omega) HC.out KC.out).mono ?_; rintro e w1 ⟨rfl, b1⟩; rw [← HXX.out, ← HHH.out, ← HRr.out]; have st1 := st.next b1; have e1 := st1.x0; have e2 := st1.x1; have e3 := st1.y0; have e4 := st1.y1; dsimp only at e1 e2 e3 e4)
  all_goals
   go_wp2_with fail
   go_ret
   refine ⟨?_, st1.b⟩
   unfold inH
   rw [decide_eq_false (Int.not_lt.2 HXH.out), Bool.false_and]
   rfl
end Go.Proofs.YtmfncapgikobkaaGreat

namespace Go.Proofs.YtmfncapgikobkaaGreat
set_option maxRecDepth 100000
set_option linter.unusedVariables false
set_option linter.unusedSimpArgs false
open Go.RowKit Nds Num
def inL (c : Cl) (lv : Nat) : Bool := inH c.x (p2 (lv - 1)) && inH c.y (p2 (lv - 1))
def upL (c : Cl) (lv : Nat) : Nat := if h : lv ≤ 1329 then (if inL c lv = true then lv else upL c (lv + 1)) else lv
 termination_by 1330 - lv
theorem upL_stop {c : Cl} {lv : Nat} (h : inL c lv = true) : upL c lv = lv := by
 by_cases h9 : lv ≤ 1329
 ·
  rw [upL, dif_pos h9, if_pos h]
 ·
  rw [upL, dif_neg h9]
theorem upL_top {c : Cl} {lv : Nat} (h : ¬ lv ≤ 1329) : upL c lv = lv := by
 rw [upL, dif_neg h]
theorem upL_next {c : Cl} {lv : Nat} (h : lv ≤ 1329) (h2 : inL c lv = false) : upL c lv = upL c (lv + 1) := by
 rw [upL, dif_pos h, if_neg (by rw [h2]; simp)]
def leastF (l : List Cl) : Nat := l.foldl (fun lv c => upL c lv) 1
theorem leastF_snoc (l : List Cl) (c : Cl) : leastF (l ++ [c]) = upL c (leastF l) := by
 unfold leastF
 rw [List.foldl_append]
 rfl
theorem leastF_take {l : List Cv} {k : Nat} (hk : k < l.length) : leastF ((l.take (k + 1)).map Cv.cl) = upL (cat l k).cl (leastF ((l.take k).map Cv.cl)) := by
 rw [← List.take_append_getElem (l := l) (i := k) hk, List.map_append, List.map_cons, List.map_nil, leastF_snoc, ← cat_get hk]
theorem us_off {w : World} {A : Option Addr} {c : Nat} {xs : List Nat} (h : Us w A c xs) {g : Nat} (hg : ∀ o v, w.cell? ⟨g, o, none⟩ = some v → ∀ k, v ≠ .int .u32 k) : 0 < xs.length → ∀ a, A = some a → a.block ≠ g := fun hx a e he => by
 obtain ⟨b, off, e', hb, hc⟩ := h.at_ hx
 rw [e] at e'
 cases e'
 dsimp only at he
 subst he
 exact hg _ _ (hc 0 hx) _ rfl
structure HX (W : World) (g : Nat) (s : Bool) (A : Option Addr) (c : Nat) (xs : List Nat) (n : Int) : Prop where
 box : W.heap[g]? = some (.cells #[.bool s, .slice A xs.length c] 42)
 us : Us W A c xs
 cn : CanonI s xs
 v : ival s xs = n
 off : 0 < xs.length → ∀ a, A = some a → a.block ≠ g
theorem HX.lt {W : World} {g : Nat} {s : Bool} {A : Option Addr} {c : Nat} {xs : List Nat} {n : Int} (h : HX W g s A c xs n) : g < W.heap.size := (Array.getElem?_eq_some_iff.1 h.box).1
theorem HX.c0 {W : World} {g : Nat} {s : Bool} {A : Option Addr} {c : Nat} {xs : List Nat} {n : Int} (h : HX W g s A c xs n) : W.cell? ⟨g, 0, none⟩ = some (.bool s) := by
 rw [cell_of_row W g _ _ _ _ h.box]; rfl
theorem HX.c1 {W : World} {g : Nat} {s : Bool} {A : Option Addr} {c : Nat} {xs : List Nat} {n : Int} (h : HX W g s A c xs n) : W.cell? ⟨g, 1, none⟩ = some (.slice A xs.length c) := by
 rw [cell_of_row W g _ _ _ _ h.box]; rfl
theorem HX.free {W : World} {g : Nat} {s : Bool} {A : Option Addr} {c : Nat} {xs : List Nat} {n : Int} (h : HX W g s A c xs n) (k : Nat) : W.frozen? ⟨g, k, none⟩ = false := frozen_of_row W g k _ _ h.box
theorem HX.next {W W1 : World} {g : Nat} {s : Bool} {A : Option Addr} {c : Nat} {xs : List Nat} {n : Int} (h : HX W g s A c xs n) (k : Below W.heap.size W W1) : HX W1 g s A c xs n :=
 ⟨(k.block g h.lt).trans h.box, h.us.below k, h.cn, h.v, h.off⟩
theorem bool_cell {W : World} {g : Nat} {s : Bool} {A : Option Addr} {n c : Nat} (h : W.heap[g]? = some (.cells #[.bool s, .slice A n c] 42)) : ∀ o v, W.cell? ⟨g, o, none⟩ = some v → ∀ k, v ≠ .int .u32 k := fun o v hv k e => by
 subst e
 rw [cell_of_row W g _ _ _ _ h] at hv
 match o with
 | 0 => simp at hv
 | 1 => simp at hv
 | o + 2 => simp at hv
theorem HX.set {W : World} {g : Nat} {s s2 : Bool} {A A2 : Option Addr} {c c2 : Nat} {xs ys : List Nat} {n m : Int} (h : HX W g s A c xs n) (hu : Us W A2 c2 ys) (hc : CanonI s2 ys) (hv : ival s2 ys = m) :
  HX ((W.setCell ⟨g, 0, none⟩ (.bool s2)).setCell ⟨g, 1, none⟩ (.slice A2 ys.length c2)) g s2 A2 c2 ys m := by
 have ho := us_off hu (bool_cell h.box)
 have hk : ∀ k, k < W.heap.size → k ≠ g → ((W.setCell ⟨g, 0, none⟩ (.bool s2)).setCell ⟨g, 1, none⟩ (.slice A2 ys.length c2)).heap[k]? = W.heap[k]? := fun k _ hk =>
  (Below.heap_setCell _ _ _ _ hk).trans (Below.heap_setCell _ _ _ _ hk)
 exact ⟨heap_setCell_same _ g 1 _ _ _ (heap_setCell_same W g 0 _ _ _ h.box), us_kept hu hk (by simp [World.setCell]) ho, hc, hv, ho⟩
theorem shl_p2 (n : Nat) : shlI (p2 n) 1 = p2 (n + 1) := by
 unfold shlI
 rw [if_pos (by decide), p2_succ]
 show p2 n * 2 ^ 1 = _
 omega
theorem len_p2 {s : Bool} {xs : List Nat} {n : Nat} (hc : CanonI s xs) (hv : ival s xs = p2 n) (hn : n ≤ 1330) : xs.length ≤ 50 := by
 refine len_ival hc hv 50 ?_
 unfold p2
 obtain ⟨M, hM⟩ : ∃ M, M = 50 := ⟨_, rfl⟩
 rw [← hM, show ((2 : Int) ^ n).natAbs = 2 ^ n by rw [Int.natAbs_pow]; rfl, show (4294967296 : Nat) = 2 ^ 32 by decide, ← Nat.pow_mul]
 exact Nat.pow_lt_pow_right (by decide) (by omega)
set_option maxRecDepth 100000 in
set_option maxHeartbeats 6400000 in
theorem least_any (A0 : Option Addr) (c0 n : Nat) (l : List Cv) (w : World) (h : Cs w A0 c0 l) (hn : l.length = n) (hR : ∀ v ∈ l, CvR v) (hn9 : n ≤ 900000) :
  Calls Tryz.prog 27 #[.slice A0 n c0] w fun e w' => e = .returned (.int .i64 (leastF (l.map Cv.cl) : Nat)) ∧ Below w.heap.size w w' := by
 have hcap := h.cap
 rw [hn] at hcap
 have HC := Lib.hid h
 have HN := Lib.hid hn
 have HR := Lib.hid hR
 clear h hR hn
 go_enter Tryz.func27, Tryz.ntmps27
 go_wp2_with (go_at_call 49; refine (bof_any 1 _ (by decide) (by decide)).mono ?_; rintro e w1 ⟨A1, c1, s1, r1, rfl, q1, k1, v1, b1⟩; have HB1 := Lib.hid b1; have HU1 := Lib.hid q1; have HK1 := Lib.hid k1; have HV1 := Lib.hid v1; clear b1 q1 k1 v1)
 obtain ⟨g, hg⟩ : ∃ g, g = w1.heap.size := ⟨_, rfl⟩
 rw [← hg]
 have HG := Lib.hid (show w.heap.size ≤ g by rw [hg]; exact HB1.out.size)
 have hx0 : HX (w1.alloc (.cells #[.bool s1, .slice A1 r1.length c1] 42)) g s1 A1 c1 r1 (p2 0) := by
  rw [hg]
  have hb := heap_alloc_new w1 (.cells #[.bool s1, .slice A1 r1.length c1] 42)
  exact ⟨hb, HU1.out.below ((Below.refl _ w1).alloc (Nat.le_refl _) _), HK1.out, HV1.out, fun hx a e => by have := us_lt HU1.out hx a e; omega⟩
 have HX0 := Lib.hid hx0
 have HB2 := Lib.hid (HB1.out.alloc HB1.out.size (.cells #[.bool s1, .slice A1 r1.length c1] 42))
 clear hg hx0
 go_loopw [10, 3] (fun z1 z2 wr => ∃ (k lv : Nat) (s : Bool) (A : Option Addr) (c : Nat) (xs : List Nat), k ≤ n ∧ z1 = .int .i64 k ∧ z2 = .int .i64 lv ∧ 1 ≤ lv ∧ lv ≤ 1330 ∧ leastF ((l.take k).map Cv.cl) = lv ∧ HX wr g s A c xs (p2 (lv - 1)) ∧ Below w.heap.size w wr) (fun z1 _ _ => n - (intOf z1).toNat)
 case atStart => exact ⟨0, 1, s1, A1, c1, r1, by omega, rfl, rfl, by omega, by omega, rfl, HX0.out, HB2.out⟩
 case round =>
  obtain ⟨k, lv, s, A, c, xs, hk, rfl, rfl, hl1, hl2, hlv, hx, hb⟩ := hrel
  have HLV := Lib.hid hlv
  have HXX := Lib.hid hx
  have HBB := Lib.hid hb
  clear hlv
  by_cases hlt : k < n
  ·
   have i1 : (k : Int) < (n : Int) := by omega
   have i2 : (0 : Int) ≤ (k : Int) := by omega
   have t1 : decide ((k : Int) < (n : Int)) = true := decide_eq_true i1
   obtain ⟨b, off, rfl, hbl, hcl⟩ := (HC.out.below hb).at_ (by rw [HN.out]; omega)
   obtain ⟨c1_, c2_, c3_, c4_, c5_⟩ := hcl k (by rw [HN.out]; exact hlt)
   have hvu := (HC.out.below hb).1 _ (cat_mem (i := k) (by rw [HN.out]; exact hlt))
   have hvr := HR.out _ (cat_mem (i := k) (by rw [HN.out]; exact hlt))
   obtain ⟨v, hv⟩ : ∃ v, v = cat l k := ⟨_, rfl⟩
   rw [← hv] at c1_ c2_ c3_ c4_ c5_ hvu hvr
   have hv1 := hvu.1.cap
   have hv2 := hvu.2.1.cap
   have HV := Lib.hid hv
   have HVU := Lib.hid hvu
   have HVR := Lib.hid hvr
   have HCL := Lib.hid hcl
   clear hv hvu hvr hcl hx hb
   go_wp2_with fail
   obtain ⟨bx, hbx⟩ : ∃ bx, bx = wr.heap.size := ⟨_, rfl⟩
   rw [← hbx]
   have hgx : Gro wr (wr.alloc (.cells #[.bool v.sx, .slice v.ax v.xs.length v.cx, .bool v.sy, .slice v.ay v.ys.length v.cy, .int .u8 v.st] 47)) := (Gro.refl wr).alloc _
   have hcv : CvAt (wr.alloc (.cells #[.bool v.sx, .slice v.ax v.xs.length v.cx, .bool v.sy, .slice v.ay v.ys.length v.cy, .int .u8 v.st] 47)) bx 0 v := by rw [hbx]; exact CvAt.new wr v _
   have hbxg : g < bx := by rw [hbx]; exact HXX.out.lt
   have hbxl : bx < (wr.alloc (.cells #[.bool v.sx, .slice v.ax v.xs.length v.cx, .bool v.sy, .slice v.ay v.ys.length v.cy, .int .u8 v.st] 47)).heap.size := by rw [hbx]; simp
   have HXA := Lib.hid (HXX.out.next hgx.b)
   have HBA := Lib.hid (HBB.out.trans (hgx.b.mono HBB.out.size))
   have HUA := Lib.hid (HVU.out.below hgx.b)
   clear hbx hgx
   go_loopw [3] (fun z2 wi => ∃ (lw : Nat) (s : Bool) (A : Option Addr) (c : Nat) (xs : List Nat), z2 = .int .i64 lw ∧ 1 ≤ lw ∧ lw ≤ 1330 ∧ upL v.cl lv = upL v.cl lw ∧ HX wi g s A c xs (p2 (lw - 1)) ∧ CvAt wi bx 0 v ∧ CvU wi v ∧ bx < wi.heap.size ∧ Below w.heap.size w wi) (fun z2 _ => 1330 - (intOf z2).toNat)
   case atStart => exact ⟨lv, s, A, c, xs, rfl, hl1, hl2, rfl, HXA.out, hcv, HUA.out, hbxl, HBA.out⟩
   case round =>
    obtain ⟨lw, s, A, c, xs, rfl, h1, h2, hup, hxi, hci, hui, hli, hbi⟩ := hrel
    have HUP := Lib.hid hup
    have HIX := Lib.hid hxi
    have HIU := Lib.hid hui
    have HIC := Lib.hid hci
    have HIL := Lib.hid hli
    have HIB := Lib.hid hbi
    have HLN := Lib.hid (len_p2 hxi.cn hxi.v (by omega))
    have HGX := Lib.hid hbxg
    obtain ⟨d1, d2, d3, d4, d5⟩ := hci
    have x1 := hxi.c0
    have x2 := hxi.c1
    have x3 := hxi.free 0
    have x4 := hxi.free 1
    have hxc := hxi.us.cap
    clear hup hxi hui hli hbi hcv
    by_cases hL : lw ≤ 1329
    ·
     have t2 : decide ((lw : Int) ≤ 1329) = true := decide_eq_true (by omega)
     obtain ⟨bX, hbX⟩ : ∃ bX, bX = inH (ival v.sx v.xs) (ival s xs) := ⟨_, rfl⟩
     obtain ⟨bY, hbY⟩ : ∃ bY, bY = inH (ival v.sy v.ys) (ival s xs) := ⟨_, rfl⟩
     have HQX := Lib.hid hbX
     have HQY := Lib.hid hbY
     have HVX := Lib.hid (show bX = inH v.cl.x (p2 (lw - 1)) by rw [← HIX.out.v]; exact hbX)
     have HVY := Lib.hid (show bY = inH v.cl.y (p2 (lw - 1)) by rw [← HIX.out.v]; exact hbY)
     clear hbX hbY
     cases bX with
     | false =>
      go_wp2_with (first
       | (go_at_call_of 59 (Value.agg #[Value.bool v.sx, Value.slice v.ax v.xs.length v.cx]); refine (cwithin_any v.sx s v.ax A v.cx c v.xs xs _ HIU.out.1 HIX.out.us HVR.out.2.2.1 (by have := HLN.out; omega) HVR.out.1 HIX.out.cn).mono ?_; rintro e w5 ⟨rfl, b5⟩; rw [← HQX.out]; have HIX5 := Lib.hid (HIX.out.next b5); have HIU5 := Lib.hid (HIU.out.below b5); have HIC5 := Lib.hid (HIC.out.below (b5.block bx HIL.out)); have HIL5 := Lib.hid (Nat.lt_of_lt_of_le HIL.out b5.size); have HIB5 := Lib.hid (HIB.out.trans (b5.mono HIB.out.size)); clear b5; obtain ⟨f1, f2, f3, f4, f5⟩ := HIC5.out; have y1 := HIX5.out.c0; have y2 := HIX5.out.c1; have y3 := HIX5.out.free 0; have y4 := HIX5.out.free 1)
       | (go_at_call 60; refine (bshl_any s A c xs 1 _ HIX5.out.us (by have := HLN.out; omega)).mono ?_; rintro e w7 ⟨A7, c7, s7, r7, rfl, u7, k7, v7, b7⟩; have HIX7 := Lib.hid (HIX5.out.next b7); have HU7 := Lib.hid u7; have HK7 := Lib.hid k7; have HV7 := Lib.hid v7; have HIU7 := Lib.hid (HIU5.out.below b7); have HIC7 := Lib.hid (HIC5.out.below (b7.block bx HIL5.out)); have HIL7 := Lib.hid (Nat.lt_of_lt_of_le HIL5.out b7.size); have HIB7 := Lib.hid (HIB5.out.trans (b7.mono HIB5.out.size)); clear u7 k7 v7 b7; have g1 := HIX7.out.c0; have g2 := HIX7.out.c1; have g3 := HIX7.out.free 0; have g4 := HIX7.out.free 1))
      go_roundw
      case rel =>
       have hx7 : HX ((w7.setCell ⟨g, 0, none⟩ (.bool s7)).setCell ⟨g, 1, none⟩ (.slice A7 r7.length c7)) g s7 A7 c7 r7 (p2 (lw + 1 - 1)) := HIX7.out.set HU7.out HK7.out (by rw [HV7.out, HIX.out.v, shl_p2, show lw - 1 + 1 = lw + 1 - 1 by omega])
       have hkk : ∀ q, q ≠ g → ((w7.setCell ⟨g, 0, none⟩ (.bool s7)).setCell ⟨g, 1, none⟩ (.slice A7 r7.length c7)).heap[q]? = w7.heap[q]? := fun q hq => (Below.heap_setCell _ _ _ _ hq).trans (Below.heap_setCell _ _ _ _ hq)
       refine ⟨lw + 1, s7, A7, c7, r7, by go_num, by omega, by omega, ?_, hx7, HIC7.out.below (hkk bx (by have := HGX.out; omega)), ?_, by simp [World.setCell]; exact HIL7.out, (HIB7.out.setCell (p := ⟨g, 0, none⟩) HG.out _).setCell (p := ⟨g, 1, none⟩) HG.out _⟩
       ·
        rw [HUP.out]; exact upL_next hL (by unfold inL; rw [← HVX.out, ← HVY.out]; simp)
       ·
        refine cvU_kept HIU7.out (fun q _ hq => hkk q hq) (by simp [World.setCell]) ⟨us_off HIU7.out.1 (bool_cell HIX7.out.box), us_off HIU7.out.2.1 (bool_cell HIX7.out.box)⟩
      case measure => simp [intOf]; omega
     | true =>
      cases bY with
      | false =>
       go_wp2_with (first
        | (go_at_call_of 59 (Value.agg #[Value.bool v.sx, Value.slice v.ax v.xs.length v.cx]); refine (cwithin_any v.sx s v.ax A v.cx c v.xs xs _ HIU.out.1 HIX.out.us HVR.out.2.2.1 (by have := HLN.out; omega) HVR.out.1 HIX.out.cn).mono ?_; rintro e w5 ⟨rfl, b5⟩; rw [← HQX.out]; have HIX5 := Lib.hid (HIX.out.next b5); have HIU5 := Lib.hid (HIU.out.below b5); have HIC5 := Lib.hid (HIC.out.below (b5.block bx HIL.out)); have HIL5 := Lib.hid (Nat.lt_of_lt_of_le HIL.out b5.size); have HIB5 := Lib.hid (HIB.out.trans (b5.mono HIB.out.size)); clear b5; obtain ⟨f1, f2, f3, f4, f5⟩ := HIC5.out; have y1 := HIX5.out.c0; have y2 := HIX5.out.c1; have y3 := HIX5.out.free 0; have y4 := HIX5.out.free 1)
        | (go_at_call_of 59 (Value.agg #[Value.bool v.sy, Value.slice v.ay v.ys.length v.cy]); refine (cwithin_any v.sy s v.ay A v.cy c v.ys xs _ HIU5.out.2.1 HIX5.out.us HVR.out.2.2.2 (by have := HLN.out; omega) HVR.out.2.1 HIX5.out.cn).mono ?_; rintro e w6 ⟨rfl, b6⟩; rw [← HQY.out]; have HIX6 := Lib.hid (HIX5.out.next b6); have HIU6 := Lib.hid (HIU5.out.below b6); have HIC6 := Lib.hid (HIC5.out.below (b6.block bx HIL5.out)); have HIL6 := Lib.hid (Nat.lt_of_lt_of_le HIL5.out b6.size); have HIB6 := Lib.hid (HIB5.out.trans (b6.mono HIB5.out.size)); clear b6; have z1 := HIX6.out.c0; have z2 := HIX6.out.c1; have z3 := HIX6.out.free 0; have z4 := HIX6.out.free 1)
        | (go_at_call 60; refine (bshl_any s A c xs 1 _ HIX6.out.us (by have := HLN.out; omega)).mono ?_; rintro e w7 ⟨A7, c7, s7, r7, rfl, u7, k7, v7, b7⟩; have HIX7 := Lib.hid (HIX6.out.next b7); have HU7 := Lib.hid u7; have HK7 := Lib.hid k7; have HV7 := Lib.hid v7; have HIU7 := Lib.hid (HIU6.out.below b7); have HIC7 := Lib.hid (HIC6.out.below (b7.block bx HIL6.out)); have HIL7 := Lib.hid (Nat.lt_of_lt_of_le HIL6.out b7.size); have HIB7 := Lib.hid (HIB6.out.trans (b7.mono HIB6.out.size)); clear u7 k7 v7 b7; have g1 := HIX7.out.c0; have g2 := HIX7.out.c1; have g3 := HIX7.out.free 0; have g4 := HIX7.out.free 1))
       go_roundw
       case rel =>
        have hx7 : HX ((w7.setCell ⟨g, 0, none⟩ (.bool s7)).setCell ⟨g, 1, none⟩ (.slice A7 r7.length c7)) g s7 A7 c7 r7 (p2 (lw + 1 - 1)) := HIX7.out.set HU7.out HK7.out (by rw [HV7.out, HIX.out.v, shl_p2, show lw - 1 + 1 = lw + 1 - 1 by omega])
        have hkk : ∀ q, q ≠ g → ((w7.setCell ⟨g, 0, none⟩ (.bool s7)).setCell ⟨g, 1, none⟩ (.slice A7 r7.length c7)).heap[q]? = w7.heap[q]? := fun q hq => (Below.heap_setCell _ _ _ _ hq).trans (Below.heap_setCell _ _ _ _ hq)
        refine ⟨lw + 1, s7, A7, c7, r7, by go_num, by omega, by omega, ?_, hx7, HIC7.out.below (hkk bx (by have := HGX.out; omega)), ?_, by simp [World.setCell]; exact HIL7.out, (HIB7.out.setCell (p := ⟨g, 0, none⟩) HG.out _).setCell (p := ⟨g, 1, none⟩) HG.out _⟩
        ·
         rw [HUP.out]; exact upL_next hL (by unfold inL; rw [← HVX.out, ← HVY.out]; simp)
        ·
         refine cvU_kept HIU7.out (fun q _ hq => hkk q hq) (by simp [World.setCell]) ⟨us_off HIU7.out.1 (bool_cell HIX7.out.box), us_off HIU7.out.2.1 (bool_cell HIX7.out.box)⟩
       case measure => simp [intOf]; omega
      | true =>
       go_wp2_with (first
        | (go_at_call_of 59 (Value.agg #[Value.bool v.sx, Value.slice v.ax v.xs.length v.cx]); refine (cwithin_any v.sx s v.ax A v.cx c v.xs xs _ HIU.out.1 HIX.out.us HVR.out.2.2.1 (by have := HLN.out; omega) HVR.out.1 HIX.out.cn).mono ?_; rintro e w5 ⟨rfl, b5⟩; rw [← HQX.out]; have HIX5 := Lib.hid (HIX.out.next b5); have HIU5 := Lib.hid (HIU.out.below b5); have HIC5 := Lib.hid (HIC.out.below (b5.block bx HIL.out)); have HIL5 := Lib.hid (Nat.lt_of_lt_of_le HIL.out b5.size); have HIB5 := Lib.hid (HIB.out.trans (b5.mono HIB.out.size)); clear b5; obtain ⟨f1, f2, f3, f4, f5⟩ := HIC5.out; have y1 := HIX5.out.c0; have y2 := HIX5.out.c1; have y3 := HIX5.out.free 0; have y4 := HIX5.out.free 1)
        | (go_at_call_of 59 (Value.agg #[Value.bool v.sy, Value.slice v.ay v.ys.length v.cy]); refine (cwithin_any v.sy s v.ay A v.cy c v.ys xs _ HIU5.out.2.1 HIX5.out.us HVR.out.2.2.2 (by have := HLN.out; omega) HVR.out.2.1 HIX5.out.cn).mono ?_; rintro e w6 ⟨rfl, b6⟩; rw [← HQY.out]; have HIX6 := Lib.hid (HIX5.out.next b6); have HIU6 := Lib.hid (HIU5.out.below b6); have HIC6 := Lib.hid (HIC5.out.below (b6.block bx HIL5.out)); have HIL6 := Lib.hid (Nat.lt_of_lt_of_le HIL5.out b6.size); have HIB6 := Lib.hid (HIB5.out.trans (b6.mono HIB5.out.size)); clear b6; have z1 := HIX6.out.c0; have z2 := HIX6.out.c1; have z3 := HIX6.out.free 0; have z4 := HIX6.out.free 1))
       go_roundw
       case rel =>
        refine ⟨k + 1, lw, s, A, c, xs, by omega, by go_num, rfl, by omega, by omega, ?_, HIX6.out, HIB6.out⟩
        rw [leastF_take (by rw [HN.out]; exact hlt), ← HV.out, HLV.out, HUP.out]
        exact upL_stop (by unfold inL; rw [← HVX.out, ← HVY.out]; rfl)
       case measure => simp [intOf]; omega
    ·
     have t2 : decide ((lw : Int) ≤ 1329) = false := decide_eq_false (by omega)
     go_wp2_with fail
     go_roundw
     case rel =>
      refine ⟨k + 1, lw, s, A, c, xs, by omega, by go_num, rfl, by omega, by omega, ?_, HIX.out, HIB.out⟩
      rw [leastF_take (by rw [HN.out]; exact hlt), ← HV.out, HLV.out, HUP.out]
      exact upL_top hL
     case measure => simp [intOf]; omega
  ·
   obtain rfl : k = n := by omega
   have t1 : decide ((k : Int) < (k : Int)) = false := decide_eq_false (by omega)
   clear hx hb
   go_wp2_with fail
   go_ret
   refine ⟨?_, HBB.out⟩
   rw [← HLV.out, List.take_of_length_le (by rw [HN.out]; exact Nat.le_refl _)]
   rfl
end Go.Proofs.YtmfncapgikobkaaGreat

namespace Go.Proofs.YtmfncapgikobkaaGreat
set_option maxRecDepth 100000
set_option linter.unusedVariables false
set_option linter.unusedSimpArgs false
open Go.RowKit Nds
theorem cvcs_set : ∀ (L : List Cv) (i : Nat) (v : Cv), i < L.length →
  cvcs (L.set i v) = (((((cvcs L).set (i * 5) (.bool v.sx)).set (i * 5 + 1) (.slice v.ax v.xs.length v.cx)).set (i * 5 + 2) (.bool v.sy)).set (i * 5 + 3) (.slice v.ay v.ys.length v.cy)).set (i * 5 + 4) (.int .u8 v.st)
 | [], i, v, h => by simp at h
 | x :: L, 0, v, h => rfl
 | x :: L, i + 1, v, h => by
  have ih := cvcs_set L i v (by simpa using h)
  show encC x ++ cvcs (L.set i v) = _
  rw [ih]
  show _ = (((((encC x ++ cvcs L).set ((i + 1) * 5) _).set ((i + 1) * 5 + 1) _).set ((i + 1) * 5 + 2) _).set ((i + 1) * 5 + 3) _).set ((i + 1) * 5 + 4) _
  have e : ∀ (l : List Value) (k : Nat) (u : Value), (encC x ++ l).set ((i + 1) * 5 + k) u = encC x ++ l.set (i * 5 + k) u := fun l k u => by
   rw [List.set_append_right _ _ (by show 5 ≤ _; omega)]
   congr 2
   show (i + 1) * 5 + k - 5 = _
   omega
  have e0 : ∀ (l : List Value) (u : Value), (encC x ++ l).set ((i + 1) * 5) u = encC x ++ l.set (i * 5) u := fun l u => e l 0 u
  rw [e0, e, e, e, e]
theorem OwnC.put {w : World} {base g n cap : Nat} {L : List Cv} (h : OwnC w base (.slice (some ⟨g, 0, none⟩) n cap) L) (hn : L.length = n) {i : Nat} (hi : i < n) (v : Cv) :
  OwnC (((((w.setCell ⟨g, i * 5, none⟩ (.bool v.sx)).setCell ⟨g, i * 5 + 1, none⟩ (.slice v.ax v.xs.length v.cx)).setCell ⟨g, i * 5 + 2, none⟩ (.bool v.sy)).setCell ⟨g, i * 5 + 3, none⟩ (.slice v.ay v.ys.length v.cy)).setCell ⟨g, i * 5 + 4, none⟩ (.int .u8 v.st)) base (.slice (some ⟨g, 0, none⟩) n cap) (L.set i v) := by
 unfold OwnC at h ⊢
 rw [List.length_set, hn, cvcs_set L i v (by omega)]
 rw [hn] at h
 exact (((((h.stored (i * 5) (.bool v.sx)).1.stored (i * 5 + 1) (.slice v.ax v.xs.length v.cx)).1.stored (i * 5 + 2) (.bool v.sy)).1.stored (i * 5 + 3) (.slice v.ay v.ys.length v.cy)).1.stored (i * 5 + 4) (.int .u8 v.st)).1
theorem gb_two {a b c : World} {g : Nat} (h : a.grownBy b (some g)) (k : b.grownBy c (some g)) : a.grownBy c (some g) :=
 ⟨k.os.trans h.os, k.tape.trans h.tape, k.output.trans h.output, Nat.le_trans h.size k.size, fun i hi hne => (k.block i (Nat.lt_of_lt_of_le hi h.size) hne).trans (h.block i hi hne)⟩
theorem setC_one (w : World) (g o : Nat) (a : Value) : w.grownBy (w.setCell ⟨g, o, none⟩ a) (some g) :=
 ⟨rfl, rfl, rfl, by simp [World.setCell], fun i _ hi => Below.heap_setCell _ _ _ _ (fun e => hi (by rw [e]))⟩
theorem setC_grown (w : World) (g o : Nat) (a b c d e : Value) : w.grownBy (((((w.setCell ⟨g, o, none⟩ a).setCell ⟨g, o + 1, none⟩ b).setCell ⟨g, o + 2, none⟩ c).setCell ⟨g, o + 3, none⟩ d).setCell ⟨g, o + 4, none⟩ e) (some g) :=
 gb_two (gb_two (gb_two (gb_two (setC_one w g o a) (setC_one _ g (o + 1) b)) (setC_one _ g (o + 2) c)) (setC_one _ g (o + 3) d)) (setC_one _ g (o + 4) e)
theorem madeC (n : Nat) : (madeCells (cvv cv0).cells (n * 5)).toList = cvcs (List.replicate n cv0) := by
 refine List.ext_getElem? fun t => ?_
 by_cases ht : t < n * 5
 ·
  obtain ⟨i, j, rfl, hj⟩ : ∃ i j, t = i * 5 + j ∧ j < 5 := ⟨t / 5, t % 5, by omega, by omega⟩
  rw [cvcs_at _ i j (by rw [List.length_replicate]; omega) hj]
  have e1 : cat (List.replicate n cv0) i = cv0 := by
   unfold cat
   rw [List.getElem?_replicate, if_pos (by omega)]
   rfl
  rw [e1]
  simp only [madeCells, Array.getElem?_toList]
  match j, hj with
  | 0, _ =>
   simp only [Nat.add_zero] at ht ⊢
   simp [ht, cv0, encC, Value.cells, show i * 5 % 5 = 0 by omega]
  | 1, _ => simp [ht, cv0, encC, Value.cells, show (i * 5 + 1) % 5 = 1 by omega]
  | 2, _ => simp [ht, cv0, encC, Value.cells, show (i * 5 + 2) % 5 = 2 by omega]
  | 3, _ => simp [ht, cv0, encC, Value.cells, show (i * 5 + 3) % 5 = 3 by omega]
  | 4, _ => simp [ht, cv0, encC, Value.cells, show (i * 5 + 4) % 5 = 4 by omega]
 ·
  rw [List.getElem?_eq_none (by rw [Array.length_toList, size_madeCells]; omega), List.getElem?_eq_none (by rw [cvcs_len, List.length_replicate]; omega)]
theorem OwnC.made {w : World} {base g n : Nat} (h : w.ownsRow base 47 5 (.slice (some ⟨g, 0, none⟩) n n) n (madeCells (cvv cv0).cells (n * 5)).toList) : OwnC w base (.slice (some ⟨g, 0, none⟩) n n) (List.replicate n cv0) := by
 unfold OwnC
 rw [List.length_replicate, ← madeC]
 exact h
theorem OwnC.no_limb {w : World} {base g n : Nat} {L : List Cv} (h : OwnC w base (.slice (some ⟨g, 0, none⟩) n n) L) (hn : L.length = n) : ∀ o v, w.cell? ⟨g, o, none⟩ = some v → ∀ k, v ≠ .int .u32 k := by
 intro o v hv k e
 subst e
 unfold OwnC at h
 rw [hn] at h
 rcases h.2 with ⟨h', _⟩ | ⟨g', cap, cur, h', hb, hg, hnc, hcm, hcs, htake⟩
 ·
  cases h'
 ·
  cases h'
  rw [cell_of_row w g o cur _ (0, 0) hg] at hv
  have ho : o < n * 5 := by
   have := (Array.getElem?_eq_some_iff.1 hv).1
   omega
  have h2 : (cvcs L)[o]? = some (.int .u32 k) := by
   rw [← htake, List.getElem?_take, if_pos ho, Array.getElem?_toList]
   exact hv
  have h3 : (Value.int .u32 k) ∈ cvcs L := List.mem_of_getElem? h2
  obtain ⟨x, _, hx⟩ := List.mem_flatMap.1 h3
  simp [encC] at hx
end Go.Proofs.YtmfncapgikobkaaGreat

namespace Go.Proofs.YtmfncapgikobkaaGreat
set_option maxRecDepth 100000
set_option linter.unusedVariables false
set_option linter.unusedSimpArgs false
open Go.RowKit Nds
structure Gv where
 s : Bool
 a : Option Addr
 c : Nat
 xs : List Nat
def gv0 : Gv := ⟨false, none, 0, []⟩
def gat (l : List Gv) (i : Nat) : Gv := l[i]?.getD gv0
def encG (v : Gv) : List Value := [.bool v.s, .slice v.a v.xs.length v.c]
abbrev gvv (v : Gv) : Value := .agg #[.bool v.s, .slice v.a v.xs.length v.c]
theorem Tryz.infoG : (Tryz.prog.info? 42).map (fun i => (i.zero, i.size, i.bytes)) = some (some (gvv gv0), 2, 32) := by kernel_rfl
def gvcs (l : List Gv) : List Value := l.flatMap encG
theorem gvcs_len (l : List Gv) : (gvcs l).length = l.length * 2 := by
 unfold gvcs
 induction l with
 | nil => rfl
 | cons x l ih =>
  rw [List.flatMap_cons, List.length_append, ih, List.length_cons]
  show 2 + _ = _
  omega
theorem gvcs_at : ∀ (l : List Gv) (i j : Nat), i < l.length → j < 2 → (gvcs l)[i * 2 + j]? = (encG (gat l i))[j]?
 | [], i, _, hi, _ => by simp at hi
 | x :: l, 0, j, _, hj => by
  show (encG x ++ gvcs l)[0 * 2 + j]? = _
  rw [List.getElem?_append_left (by show _ < 2; omega), show 0 * 2 + j = j by omega]
  rfl
 | x :: l, i + 1, j, hi, hj => by
  show (encG x ++ gvcs l)[(i + 1) * 2 + j]? = _
  rw [List.getElem?_append_right (by show 2 ≤ _; omega), show (i + 1) * 2 + j - (encG x).length = i * 2 + j by show _ - 2 = _; omega, gvcs_at l i j (by simpa using hi) hj]
  rfl
theorem gvcs_set : ∀ (L : List Gv) (i : Nat) (v : Gv), i < L.length → gvcs (L.set i v) = ((gvcs L).set (i * 2) (.bool v.s)).set (i * 2 + 1) (.slice v.a v.xs.length v.c)
 | [], i, v, h => by simp at h
 | x :: L, 0, v, h => rfl
 | x :: L, i + 1, v, h => by
  have ih := gvcs_set L i v (by simpa using h)
  show encG x ++ gvcs (L.set i v) = _
  rw [ih]
  show _ = ((encG x ++ gvcs L).set ((i + 1) * 2) _).set ((i + 1) * 2 + 1) _
  have e : ∀ (l : List Value) (k : Nat) (u : Value), (encG x ++ l).set ((i + 1) * 2 + k) u = encG x ++ l.set (i * 2 + k) u := fun l k u => by
   rw [List.set_append_right _ _ (by show 2 ≤ _; omega)]
   congr 2
   show (i + 1) * 2 + k - 2 = _
   omega
  have e0 : ∀ (l : List Value) (u : Value), (encG x ++ l).set ((i + 1) * 2) u = encG x ++ l.set (i * 2) u := fun l u => e l 0 u
  rw [e0, e]
def OwnG (w : World) (base g n : Nat) (l : List Gv) : Prop := l.length = n ∧ w.ownsRow base 42 2 (.slice (some ⟨g, 0, none⟩) n n) n (gvcs l)
theorem OwnG.row {w : World} {base g n : Nat} {l : List Gv} (h : OwnG w base g n l) : base ≤ g ∧ g < w.heap.size ∧ (∀ i, i < n → w.cell? ⟨g, i * 2, none⟩ = some (.bool (gat l i).s) ∧ w.cell? ⟨g, i * 2 + 1, none⟩ = some (.slice (gat l i).a (gat l i).xs.length (gat l i).c)) ∧ (∀ o, w.frozen? ⟨g, o, none⟩ = false) ∧ (∀ o v, w.cell? ⟨g, o, none⟩ = some v → ∀ k, v ≠ .int .u32 k) := by
 obtain ⟨hn, h⟩ := h
 rcases h.2 with ⟨h', _⟩ | ⟨g', cap, cur, h', hb, hg, hnc, hcm, hcs, htake⟩
 ·
  cases h'
 ·
  cases h'
  have hlt : g < w.heap.size := by
   rcases Nat.lt_or_ge g w.heap.size with hlt | hge
   ·
    exact hlt
   ·
    rw [Array.getElem?_eq_none hge] at hg; cases hg
  have hcell : ∀ i, i < n → ∀ j, j < 2 → w.cell? ⟨g, i * 2 + j, none⟩ = (encG (gat l i))[j]? := by
   intro i hi j hj
   have hlt : i * 2 + j < n * 2 := by omega
   rw [cell_of_row w g (i * 2 + j) cur _ (0, 0) hg, ← gvcs_at l i j (by omega) hj, ← htake, List.getElem?_take, if_pos hlt]
   simp
  refine ⟨hb, hlt, fun i hi => ⟨hcell i hi 0 (by omega), hcell i hi 1 (by omega)⟩, fun o => frozen_of_row _ _ _ _ _ hg, ?_⟩
  intro o v hv k e
  subst e
  rw [cell_of_row w g o cur _ (0, 0) hg] at hv
  have ho : o < n * 2 := by
   have := (Array.getElem?_eq_some_iff.1 hv).1
   omega
  have h2 : (gvcs l)[o]? = some (.int .u32 k) := by
   rw [← htake, List.getElem?_take, if_pos ho, Array.getElem?_toList]
   exact hv
  have h3 : (Value.int .u32 k) ∈ gvcs l := List.mem_of_getElem? h2
  obtain ⟨x, _, hx⟩ := List.mem_flatMap.1 h3
  simp [encG] at hx
theorem OwnG.kept {w w' : World} {base g n : Nat} {l : List Gv} (h : OwnG w base g n l) {row : Option Nat} (hg : w.grownBy w' row) (hv : row ≠ some g) : OwnG w' base g n l :=
 ⟨h.1, World.ownsRow.kept h.2 hg (.inr fun e => hv e.symm)⟩
theorem OwnG.next {w w' : World} {base g n : Nat} {l : List Gv} (h : OwnG w base g n l) (hb : Below w.heap.size w w') : OwnG w' base g n l := h.kept (gbN hb) (by simp)
theorem OwnG.put {w : World} {base g n : Nat} {L : List Gv} (h : OwnG w base g n L) {i : Nat} (hi : i < n) (v : Gv) :
  OwnG ((w.setCell ⟨g, i * 2, none⟩ (.bool v.s)).setCell ⟨g, i * 2 + 1, none⟩ (.slice v.a v.xs.length v.c)) base g n (L.set i v) := by
 refine ⟨by rw [List.length_set]; exact h.1, ?_⟩
 rw [gvcs_set L i v (by rw [h.1]; exact hi)]
 exact ((h.2.stored (i * 2) (.bool v.s)).1.stored (i * 2 + 1) (.slice v.a v.xs.length v.c)).1
theorem madeG (n : Nat) : (madeCells (gvv gv0).cells (n * 2)).toList = gvcs (List.replicate n gv0) := by
 refine List.ext_getElem? fun t => ?_
 by_cases ht : t < n * 2
 ·
  obtain ⟨i, j, rfl, hj⟩ : ∃ i j, t = i * 2 + j ∧ j < 2 := ⟨t / 2, t % 2, by omega, by omega⟩
  rw [gvcs_at _ i j (by rw [List.length_replicate]; omega) hj]
  have e1 : gat (List.replicate n gv0) i = gv0 := by
   unfold gat
   rw [List.getElem?_replicate, if_pos (by omega)]
   rfl
  rw [e1]
  simp only [madeCells, Array.getElem?_toList]
  match j, hj with
  | 0, _ =>
   simp only [Nat.add_zero] at ht ⊢
   simp [ht, gv0, encG, Value.cells, show i * 2 % 2 = 0 by omega]
  | 1, _ => simp [ht, gv0, encG, Value.cells, show (i * 2 + 1) % 2 = 1 by omega]
 ·
  rw [List.getElem?_eq_none (by rw [Array.length_toList, size_madeCells]; omega), List.getElem?_eq_none (by rw [gvcs_len, List.length_replicate]; omega)]
theorem OwnG.made {w : World} {base g n : Nat} (h : w.ownsRow base 42 2 (.slice (some ⟨g, 0, none⟩) n n) n (madeCells (gvv gv0).cells (n * 2)).toList) : OwnG w base g n (List.replicate n gv0) :=
 ⟨List.length_replicate, by rw [← madeG]; exact h⟩
theorem gat_set_same {L : List Gv} {i : Nat} (h : i < L.length) (u : Gv) : gat (L.set i u) i = u := by
 unfold gat
 rw [List.getElem?_set, if_pos rfl, if_pos h]
 rfl
theorem gat_set_ne {L : List Gv} {i j : Nat} (h : i ≠ j) (u : Gv) : gat (L.set i u) j = gat L j := by
 unfold gat
 rw [List.getElem?_set, if_neg h]
structure GIn (W : World) (v : Gv) (m : Int) : Prop where
 us : Us W v.a v.c v.xs
 cn : CanonI v.s v.xs
 v : ival v.s v.xs = m
theorem GIn.next {W W1 : World} {v : Gv} {m : Int} (h : GIn W v m) (k : Below W.heap.size W W1) : GIn W1 v m := ⟨h.us.below k, h.cn, h.v⟩
theorem GIn.over {W W1 : World} {v : Gv} {m : Int} {g : Nat} (h : GIn W v m) (hg : ∀ o v, W.cell? ⟨g, o, none⟩ = some v → ∀ k, v ≠ .int .u32 k) (hk : W.grownBy W1 (some g)) : GIn W1 v m :=
 ⟨us_kept h.us (fun q h1 h2 => hk.block q h1 (fun e => h2 (by cases e; rfl))) hk.size (us_off h.us hg), h.cn, h.v⟩
theorem GIn.zero (W : World) : GIn W gv0 0 := ⟨Us.nil W, ⟨Num.canon_nil, fun h => by cases h⟩, rfl⟩
end Go.Proofs.YtmfncapgikobkaaGreat

namespace Go.Proofs.YtmfncapgikobkaaGreat
set_option maxRecDepth 100000
set_option linter.unusedVariables false
set_option linter.unusedSimpArgs false
open Nds
def listT : Tr → Int → Int → List Cl
 | .e, _, _ => []
 | .s k, X, Y => [⟨X, Y, k⟩]
 | .n v a b c d, X, Y => listT a X Y ++ listT b (X + p2 (v.toNat - 1)) Y ++ listT c X (Y + p2 (v.toNat - 1)) ++ listT d (X + p2 (v.toNat - 1)) (Y + p2 (v.toNat - 1))
def countT : Tr → Nat
 | .e => 0
 | .s _ => 1
 | .n _ a b c d => countT a + countT b + countT c + countT d
theorem listT_len : ∀ (t : Tr) (X Y : Int), (listT t X Y).length = countT t
 | .e, _, _ => rfl
 | .s k, _, _ => rfl
 | .n v a b c d, X, Y => by
  show (listT a X Y ++ listT b (X + p2 (v.toNat - 1)) Y ++ listT c X (Y + p2 (v.toNat - 1)) ++ listT d (X + p2 (v.toNat - 1)) (Y + p2 (v.toNat - 1))).length = countT a + countT b + countT c + countT d
  rw [List.length_append, List.length_append, List.length_append, listT_len a, listT_len b, listT_len c, listT_len d]
theorem lk_app : ∀ (l m : List Cl) (x y : Int), lk (l ++ m) x y = if (∃ c ∈ l, c.x = x ∧ c.y = y) then lk l x y else lk m x y
 | [], m, x, y => by
  rw [if_neg (by rintro ⟨c, hc, _⟩; cases hc)]
  rfl
 | a :: l, m, x, y => by
  show (if a.x = x ∧ a.y = y then a.s else lk (l ++ m) x y) = if _ then (if a.x = x ∧ a.y = y then a.s else lk l x y) else _
  by_cases ha : a.x = x ∧ a.y = y
  ·
   rw [if_pos ha, if_pos ⟨a, by simp, ha⟩, if_pos ha]
  ·
   rw [if_neg ha, lk_app l m x y]
   by_cases hl : ∃ c ∈ l, c.x = x ∧ c.y = y
   ·
    obtain ⟨c, hc, h⟩ := hl
    rw [if_pos ⟨c, hc, h⟩, if_pos ⟨c, by simp [hc], h⟩, if_neg ha]
   ·
    rw [if_neg hl, if_neg]
    rintro ⟨c, hc, h⟩
    rcases List.mem_cons.1 hc with rfl | hc
    ·
     exact ha h
    ·
     exact hl ⟨c, hc, h⟩
theorem lk_app_sq {X Y h : Int} {l m : List Cl} (hl : ∀ c ∈ l, sqB X Y h c = true) (hm : ∀ c ∈ m, sqB X Y h c = false) (x y : Int) : lk (l ++ m) x y = lk l x y + lk m x y := by
 rw [lk_app]
 by_cases he : ∃ c ∈ l, c.x = x ∧ c.y = y
 ·
  rw [if_pos he]
  obtain ⟨c, hc, h1⟩ := he
  have h2 := sq_iff.1 (hl c hc)
  rw [lk_none (l := m) (fun d hd e => by
   have h3 := hm d hd
   have h4 : sqB X Y h d = true := sq_iff.2 (by rw [e.1, e.2, ← h1.1, ← h1.2]; exact h2)
   rw [h4] at h3
   cases h3)]
  omega
 ·
  rw [if_neg he, lk_none (l := l) (fun d hd e => he ⟨d, hd, e⟩)]
  omega
theorem listT_spec : ∀ (t : Tr) (n : Nat) (X Y : Int), wfT (n : Int) t → Fine (listT t X Y) ∧ (∀ c ∈ listT t X Y, sqB X Y (p2 n) c = true) ∧ ∀ x y, lk (listT t X Y) x y = cellC t (x - X) (y - Y)
 | .e, _, _, _, _ => ⟨⟨fun c hc => absurd hc (List.not_mem_nil), List.Pairwise.nil⟩, fun c hc => absurd hc (List.not_mem_nil), fun x y => rfl⟩
 | .s k, n, X, Y, hw => by
  have hn : (n : Int) = 0 := hw.1
  have : n = 0 := by omega
  subst this
  refine ⟨⟨fun c hc => ?_, List.pairwise_singleton _ _⟩, fun c hc => ?_, fun x y => ?_⟩
  ·
   rw [List.mem_singleton.1 hc]
   exact ⟨hw.2.1, hw.2.2⟩
  ·
   rw [List.mem_singleton.1 hc, sq_iff, p2_zero]
   show X ≤ X ∧ X < X + 1 ∧ Y ≤ Y ∧ Y < Y + 1
   omega
  ·
   show (if X = x ∧ Y = y then k else 0) = if x - X = 0 ∧ y - Y = 0 then k else 0
   by_cases h : X = x ∧ Y = y
   ·
    rw [if_pos h, if_pos (by omega)]
   ·
    rw [if_neg h, if_neg (by omega)]
 | .n v a b c d, n, X, Y, hw => by
  obtain ⟨m, rfl, rfl, ha, hb, hc, hd, _⟩ := wf_n hw
  have hp := p2_pos m
  have ep := p2_succ m
  obtain ⟨fa, sa, ka⟩ := listT_spec a m X Y ha
  obtain ⟨fb, sb, kb⟩ := listT_spec b m (X + p2 m) Y hb
  obtain ⟨fc, sc, kc⟩ := listT_spec c m X (Y + p2 m) hc
  obtain ⟨fd, sd, kd⟩ := listT_spec d m (X + p2 m) (Y + p2 m) hd
  have e : ((m : Int) + 1).toNat - 1 = m := by omega
  have el : listT (.n ((m : Int) + 1) a b c d) X Y = listT a X Y ++ listT b (X + p2 m) Y ++ listT c X (Y + p2 m) ++ listT d (X + p2 m) (Y + p2 m) := by
   show listT a X Y ++ listT b (X + p2 (((m : Int) + 1).toNat - 1)) Y ++ listT c X (Y + p2 (((m : Int) + 1).toNat - 1)) ++ listT d (X + p2 (((m : Int) + 1).toNat - 1)) (Y + p2 (((m : Int) + 1).toNat - 1)) = _
   rw [e]
  rw [el]
  have apart : ∀ {l1 l2 : List Cl} {X1 Y1 X2 Y2 : Int}, (∀ c ∈ l1, sqB X1 Y1 (p2 m) c = true) → (∀ c ∈ l2, sqB X2 Y2 (p2 m) c = true) → (X1 + p2 m ≤ X2 ∨ X2 + p2 m ≤ X1 ∨ Y1 + p2 m ≤ Y2 ∨ Y2 + p2 m ≤ Y1) → ∀ c ∈ l1, ∀ d ∈ l2, ¬ (c.x = d.x ∧ c.y = d.y) := fun h1 h2 h3 c hc d hd e => by
   have a1 := sq_iff.1 (h1 c hc)
   have a2 := sq_iff.1 (h2 d hd)
   omega
  have outOf : ∀ {l2 : List Cl} {X1 Y1 X2 Y2 : Int}, (∀ c ∈ l2, sqB X2 Y2 (p2 m) c = true) → (X1 + p2 m ≤ X2 ∨ X2 + p2 m ≤ X1 ∨ Y1 + p2 m ≤ Y2 ∨ Y2 + p2 m ≤ Y1) → ∀ c ∈ l2, sqB X1 Y1 (p2 m) c = false := fun h2 h3 c hc => by
   have a2 := sq_iff.1 (h2 c hc)
   cases hq : sqB _ _ (p2 m) c
   ·
    rfl
   ·
    have := sq_iff.1 hq
    omega
  refine ⟨⟨fun q hq => ?_, ?_⟩, fun q hq => ?_, fun x y => ?_⟩
  ·
   rcases List.mem_append.1 hq with hq | hq
   ·
    rcases List.mem_append.1 hq with hq | hq
    ·
     rcases List.mem_append.1 hq with hq | hq
     ·
      exact fa.1 q hq
     ·
      exact fb.1 q hq
    ·
     exact fc.1 q hq
   ·
    exact fd.1 q hq
  ·
   rw [List.pairwise_append, List.pairwise_append, List.pairwise_append]
   refine ⟨⟨⟨fa.2, fb.2, apart sa sb (by omega)⟩, fc.2, fun q hq => ?_⟩, fd.2, fun q hq => ?_⟩
   ·
    rcases List.mem_append.1 hq with hq | hq
    ·
     exact apart sa sc (by omega) q hq
    ·
     exact apart sb sc (by omega) q hq
   ·
    rcases List.mem_append.1 hq with hq | hq
    ·
     rcases List.mem_append.1 hq with hq | hq
     ·
      exact apart sa sd (by omega) q hq
     ·
      exact apart sb sd (by omega) q hq
    ·
     exact apart sc sd (by omega) q hq
  ·
   rw [sq_iff, p2_succ]
   rcases List.mem_append.1 hq with hq | hq
   ·
    rcases List.mem_append.1 hq with hq | hq
    ·
     rcases List.mem_append.1 hq with hq | hq
     ·
      have := sq_iff.1 (sa q hq); omega
     ·
      have := sq_iff.1 (sb q hq); omega
    ·
     have := sq_iff.1 (sc q hq); omega
   ·
    have := sq_iff.1 (sd q hq); omega
  ·
   rw [List.append_assoc, List.append_assoc, lk_app_sq sa (fun q hq => by
    rcases List.mem_append.1 hq with hq | hq
    ·
     exact outOf sb (by omega) q hq
    ·
     rcases List.mem_append.1 hq with hq | hq
     ·
      exact outOf sc (by omega) q hq
     ·
      exact outOf sd (by omega) q hq), lk_app_sq sb (fun q hq => by
    rcases List.mem_append.1 hq with hq | hq
    ·
     exact outOf sc (by omega) q hq
    ·
     exact outOf sd (by omega) q hq), lk_app_sq sc (fun q hq => outOf sd (by omega) q hq), ka, kb, kc, kd, cell_q ha hb hc hd]
   rw [show x - (X + p2 m) = x - X - p2 m by omega, show y - (Y + p2 m) = y - Y - p2 m by omega]
   omega
end Go.Proofs.YtmfncapgikobkaaGreat

namespace Go.Proofs.YtmfncapgikobkaaGreat
set_option maxRecDepth 100000
set_option linter.unusedVariables false
set_option linter.unusedSimpArgs false
open Nds
theorem mem_of_lk : ∀ {l : List Cl} {x y : Int}, lk l x y ≠ 0 → ∃ c ∈ l, c.x = x ∧ c.y = y ∧ c.s = lk l x y
 | [], _, _, h => absurd rfl h
 | c :: l, x, y, h => by
  by_cases hc : c.x = x ∧ c.y = y
  ·
   exact ⟨c, by simp, hc.1, hc.2, by unfold lk; rw [if_pos hc]⟩
  ·
   have e : lk (c :: l) x y = lk l x y := by
    conv => lhs; unfold lk
    rw [if_neg hc]
   rw [e] at h ⊢
   obtain ⟨d, hd, h1⟩ := mem_of_lk h
   exact ⟨d, by simp [hd], h1⟩
theorem fine_lk : ∀ {l : List Cl}, l.Pairwise (fun a b => ¬ (a.x = b.x ∧ a.y = b.y)) → ∀ {c : Cl}, c ∈ l → lk l c.x c.y = c.s
 | a :: l, h, c, hc => by
  obtain ⟨h1, h2⟩ := List.pairwise_cons.1 h
  unfold lk
  rcases List.mem_cons.1 hc with rfl | hc
  ·
   rw [if_pos ⟨rfl, rfl⟩]
  ·
   rw [if_neg (h1 c hc), fine_lk h2 hc]
theorem fine_perm {l m : List Cl} (hl : Fine l) (hm : Fine m) (h : ∀ x y, lk l x y = lk m x y) : l.Perm m := by
 have nd : ∀ {l : List Cl}, Fine l → l.Nodup := fun h => h.2.imp fun {a b} h e => h ⟨congrArg Cl.x e, congrArg Cl.y e⟩
 have key : ∀ {l m : List Cl} {c : Cl}, Fine l → Fine m → (∀ x y, lk l x y = lk m x y) → c ∈ l → c ∈ m := fun {l m c} hl hm h hc => by
  have h1 := fine_lk hl.2 hc
  rw [h] at h1
  have h0 := (hl.1 c hc).1
  obtain ⟨d, hd, e1, e2, e3⟩ := mem_of_lk (l := m) (x := c.x) (y := c.y) (by rw [h1]; omega)
  have : c = d := Cl.ext' e1.symm e2.symm (by rw [e3, h1])
  rw [this]
  exact hd
 exact (List.perm_ext_iff_of_nodup (nd hl) (nd hm)).2 fun c => ⟨key hl hm h, key hm hl fun x y => (h x y).symm⟩
theorem lk_perm {l m : List Cl} (hl : l.Pairwise (fun a b => ¬ (a.x = b.x ∧ a.y = b.y))) (hm : m.Pairwise (fun a b => ¬ (a.x = b.x ∧ a.y = b.y))) (h : l.Perm m) (x y : Int) : lk l x y = lk m x y := by
 by_cases he : ∃ c ∈ l, c.x = x ∧ c.y = y
 ·
  obtain ⟨c, hc, rfl, rfl⟩ := he
  rw [fine_lk hl hc, fine_lk hm (h.mem_iff.1 hc)]
 ·
  rw [lk_none fun c hc e => he ⟨c, hc, e⟩, lk_none fun c hc e => he ⟨c, h.mem_iff.2 hc, e⟩]
theorem unlike_perm {l m : List Cl} (h : l.Perm m) (hl : l.Pairwise (fun a b => ¬ (a.x = b.x ∧ a.y = b.y))) : m.Pairwise (fun a b => ¬ (a.x = b.x ∧ a.y = b.y)) :=
 (h.pairwise_iff (fun {a b} h e => h ⟨e.1.symm, e.2.symm⟩)).1 hl
theorem lastS_unlike {l : List Cl} (h : l.Pairwise (fun a b => ¬ (a.x = b.x ∧ a.y = b.y))) (x y : Int) : lastS l x y = lk l x y := by
 suffices hk : ∀ k, k ≤ l.length → lastS (l.take k) x y = lk (l.take k) x y by
  have := hk l.length (Nat.le_refl _)
  rwa [List.take_of_length_le (Nat.le_refl _)] at this
 intro k
 induction k with
 | zero => exact fun _ => rfl
 | succ k ih =>
  intro hk
  rw [List.take_succ_eq_append_getElem (by omega), lastS_snoc, ih (by omega), lk_app]
  have hp : ∀ d ∈ l.take k, ¬ (d.x = l[k].x ∧ d.y = l[k].y) := fun d hd => by
   obtain ⟨i, hi, rfl⟩ := List.getElem_of_mem hd
   rw [List.length_take] at hi
   rw [List.getElem_take]
   exact List.pairwise_iff_getElem.1 h i k _ _ (by omega)
  by_cases hc : l[k].x = x ∧ l[k].y = y
  ·
   rw [if_pos hc, if_neg (fun ⟨d, hd, e⟩ => hp d hd ⟨e.1.trans hc.1.symm, e.2.trans hc.2.symm⟩)]
   unfold lk
   rw [if_pos hc]
  ·
   rw [if_neg hc]
   by_cases hd : ∃ d ∈ l.take k, d.x = x ∧ d.y = y
   ·
    rw [if_pos hd]
   ·
    rw [if_neg hd, lk_none fun d hd' e => hd ⟨d, hd', e⟩]
    unfold lk
    rw [if_neg hc]
    rfl
theorem lastF_srt (l : List Cl) : Srt (lastF l) := (lastF_spec l).1
theorem lastF_lk (l : List Cl) (x y : Int) : lk (lastF l) x y = lastS l x y := (lastF_spec l).2.1 x y
theorem lastF_one {l m : List Cl} (h : ∀ x y, lastS l x y = lastS m x y) : lastF l = lastF m :=
 srt_uniq (lastF_srt l) (lastF_srt m) (fun c hc => ((lastF_spec l).2.2 c hc).1) (fun c hc => ((lastF_spec m).2.2 c hc).1) fun x y => by rw [lastF_lk, lastF_lk, h]
theorem lastF_eq {l m : List Cl} (hm : Srt m) (h0 : ∀ c ∈ m, c.s ≠ 0) (h : ∀ x y, lastS l x y = lk m x y) : lastF l = m :=
 srt_uniq (lastF_srt l) hm (fun c hc => ((lastF_spec l).2.2 c hc).1) h0 fun x y => by rw [lastF_lk, h]
theorem lastF_fine {l : List Cl} (h : ∀ c ∈ l, 0 ≤ c.s ∧ c.s ≤ 255) : Fine (lastF l) :=
 srt_fine (lastF_srt l) fun c hc => by
  obtain ⟨h1, h2⟩ := (lastF_spec l).2.2 c hc
  have := h c h2
  omega
theorem lastF_len {l : List Cl} (h : Fine l) : (lastF l).length = l.length :=
 (fine_perm (lastF_fine fun c hc => by have := h.1 c hc; omega) h fun x y => by rw [lastF_lk, lastS_unlike h.2]).length_eq
theorem lastF_perm {l m : List Cl} (h : l.Pairwise (fun a b => ¬ (a.x = b.x ∧ a.y = b.y))) (k : l.Perm m) : lastF l = lastF m :=
 lastF_one fun x y => by rw [lastS_unlike h, lastS_unlike (unlike_perm k h), lk_perm h (unlike_perm k h) k]
theorem srt_unlike {l : List Cl} (h : Srt l) : l.Pairwise (fun a b => ¬ (a.x = b.x ∧ a.y = b.y)) := h.imp fun h => ltC_ne h
def QuadOf (L : List Cl) (out : List Nd) : Prop :=
 ∃ (t : Tr) (n : Nat), wfT (n : Int) t ∧ (∀ k, t ≠ .s k) ∧ holT t = false ∧ out = (enc t []).1 ∧ ∀ x y, cellM t x y = lk L x y
theorem quadOf_one {L M : List Cl} {a b : List Nd} (h : QuadOf L a) (k : QuadOf M b) (e : ∀ x y, lk L x y = lk M x y) : a = b := by
 obtain ⟨t, n, h1, h2, h3, rfl, h5⟩ := h
 obtain ⟨u, m, k1, k2, k3, rfl, k5⟩ := k
 rw [cells_one h1 k1 h2 k2 h3 k3 fun x y => by rw [h5, k5, e]]
theorem QuadOf.of {L M : List Cl} {a : List Nd} (h : QuadOf L a) (e : ∀ x y, lk L x y = lk M x y) : QuadOf M a := by
 obtain ⟨t, n, h1, h2, h3, h4, h5⟩ := h
 exact ⟨t, n, h1, h2, h3, h4, fun x y => by rw [h5, e]⟩
theorem nat_wf {t : Tr} {v : Int} (hw : wfT v t) (hs : ∀ k, t ≠ .s k) : ∃ q : Nat, wfT (q : Int) t := by
 cases t with
 | e => exact ⟨0, trivial⟩
 | s k => exact absurd rfl (hs k)
 | n u a b c d =>
  have h1 := hw.1
  have h2 := hw.2.1
  exact ⟨v.toNat, by rwa [show ((v.toNat : Nat) : Int) = v by omega]⟩
theorem ofL_quadOf {l : List Nd} (hl : looseB l = true) {n : Nat} (hn : n ≤ l.length) {L : List Cl} (h : ∀ x y, cellM (den l n) x y = lk L x y) : QuadOf L (OfL l n) := by
 obtain ⟨v, h1, h2, h3⟩ := ofL_tree hl hn
 obtain ⟨q, hq⟩ := nat_wf h1 h2
 obtain ⟨u, hu⟩ := wf_denn hl hn
 obtain ⟨p, hp⟩ := nat_wf hu (fun k => den_not_s)
 exact ⟨_, q, hq, h2, h3, rfl, fun x y => by rw [shr_cells hp]; exact h x y⟩
theorem QuadOf.good {L : List Cl} {out : List Nd} (h : QuadOf L out) : GoodL out := by
 obtain ⟨t, n, h1, h2, h3, rfl, h5⟩ := h
 exact (enc_spec _ _ [] h1 good_nil).good
theorem QuadOf.quad {L : List Cl} {out : List Nd} (h : QuadOf L out) : quadB out = true := by
 obtain ⟨t, n, h1, h2, h3, rfl, h5⟩ := h
 exact quad_of_tree h1 h2 h3
theorem QuadOf.den {L : List Cl} {out : List Nd} (h : QuadOf L out) (x y : Int) : cellM (den out out.length) x y = lk L x y := by
 obtain ⟨t, n, h1, h2, h3, rfl, h5⟩ := h
 rw [← h5]
 by_cases he : t = .e
 ·
  subst he
  show cellM (Nds.den [] 0) x y = _
  rw [den_zero]
 ·
  rw [(enc_root h1 he h2).2.2]
def cornL (l : List Nd) : List Cl := listT (den l l.length) (-(p2 ((at_ l (l.length - 1)).lv.toNat - 1))) (-(p2 ((at_ l (l.length - 1)).lv.toNat - 1)))
theorem corn_spec {l : List Nd} (hl : looseB l = true) : Fine (cornL l) ∧ ∀ x y, lk (cornL l) x y = cellM (den l l.length) x y := by
 unfold cornL
 rcases Nat.eq_zero_or_pos l.length with h0 | h0
 ·
  rw [h0, den_zero]
  exact ⟨⟨fun c hc => absurd hc (List.not_mem_nil), List.Pairwise.nil⟩, fun x y => rfl⟩
 ·
  obtain ⟨p, hp⟩ : ∃ p, l.length = p + 1 := ⟨l.length - 1, by omega⟩
  rw [hp, Nat.add_sub_cancel]
  have hw := wf_den hl p (by omega)
  have hv := fit_lv (loose_fit hl (i := p) (by omega))
  obtain ⟨n, hn⟩ : ∃ n : Nat, (at_ l p).lv = (n : Int) := ⟨_, (Int.toNat_of_nonneg (by omega)).symm⟩
  rw [hn] at hw ⊢
  rw [Int.toNat_natCast]
  obtain ⟨h1, h2, h3⟩ := listT_spec (den l (p + 1)) n (-(p2 (n - 1))) (-(p2 (n - 1))) hw
  refine ⟨h1, fun x y => ?_⟩
  rw [h3]
  unfold cellM
  generalize den l (p + 1) = t at hw
  cases t with
  | e => rfl
  | s k =>
   have := hw.1
   omega
  | n v a b c d =>
   have e : v = (n : Int) := hw.1.symm
   subst e
   show cellC _ _ _ = cellC _ (x + p2 ((n : Int).toNat - 1)) (y + p2 ((n : Int).toNat - 1))
   rw [Int.toNat_natCast, show x - -(p2 (n - 1)) = x + p2 (n - 1) by omega, show y - -(p2 (n - 1)) = y + p2 (n - 1) by omega]
def cellsL (l : List Nd) : List Cl := lastF (cornL l)
theorem cells_lk {l : List Nd} (hl : looseB l = true) (x y : Int) : lk (cellsL l) x y = cellM (den l l.length) x y := by
 unfold cellsL
 rw [lastF_lk, lastS_unlike (corn_spec hl).1.2, (corn_spec hl).2]
theorem cells_srt (l : List Nd) : Srt (cellsL l) := lastF_srt _
theorem cells_fine {l : List Nd} (hl : looseB l = true) : Fine (cellsL l) := lastF_fine fun c hc => by
 have := (corn_spec hl).1.1 c hc
 omega
theorem cells_len {l : List Nd} (hl : looseB l = true) : (cellsL l).length = countT (den l l.length) := by
 unfold cellsL
 rw [lastF_len (corn_spec hl).1]
 unfold cornL
 exact listT_len _ _ _
theorem QuadOf.cells {L : List Cl} {out : List Nd} (h : QuadOf L out) (hs : Srt L) (h0 : ∀ c ∈ L, c.s ≠ 0) : cellsL out = L :=
 srt_uniq (cells_srt out) hs (fun c hc => by have := (cells_fine h.good.1).1 c hc; omega) h0 fun x y => by rw [cells_lk h.good.1, h.den]
theorem quadOf_self {l : List Nd} (hl : looseB l = true) : QuadOf (cellsL l) (OfL l l.length) := ofL_quadOf hl (Nat.le_refl _) fun x y => (cells_lk hl x y).symm
theorem countT_le : ∀ (t : Tr) (n : Nat), wfT (n : Int) t → countT t ≤ 4 ^ n
 | .e, n, _ => Nat.zero_le _
 | .s k, n, h => by
  have : (n : Int) = 0 := h.1
  obtain rfl : n = 0 := by omega
  exact Nat.le_refl 1
 | .n v a b c d, n, h => by
  obtain ⟨m, rfl, rfl, ha, hb, hc, hd, _⟩ := wf_n h
  have h1 := countT_le a m ha
  have h2 := countT_le b m hb
  have h3 := countT_le c m hc
  have h4 := countT_le d m hd
  show countT a + countT b + countT c + countT d ≤ 4 ^ (m + 1)
  rw [Nat.pow_succ]
  omega
end Go.Proofs.YtmfncapgikobkaaGreat

namespace Go.Proofs.YtmfncapgikobkaaGreat
set_option maxRecDepth 100000
set_option linter.unusedVariables false
set_option linter.unusedSimpArgs false
open Nds Num
theorem countT_mk (v : Int) (a b c d : Tr) : countT (mk v a b c d) = countT a + countT b + countT c + countT d := by
 unfold mk
 split
 ·
  rename_i h
  obtain ⟨rfl, rfl, rfl, rfl⟩ := allE_iff.1 h
  rfl
 ·
  rfl
def cntK (l : List Nd) (x : Nd) : Nat → Nat
 | 0 => 0
 | j + 1 => cntK l x j + countT (kidT (dens l) x.lv (x.kid j))
theorem cntK_four (l : List Nd) (x : Nd) : cntK l x 4 = countT (norm (dens l) x) := by
 unfold norm
 rw [countT_mk]
 show 0 + countT (kidT (dens l) x.lv x.a) + countT (kidT (dens l) x.lv x.b) + countT (kidT (dens l) x.lv x.c) + countT (kidT (dens l) x.lv x.d) = _
 omega
theorem cntK_den {l : List Nd} (h : looseB l = true) {i : Nat} (hi : i < l.length) : cntK l (at_ l i) 4 = countT (den l (i + 1)) := by
 rw [cntK_four, den_loose h hi]
theorem cntK_mono (l : List Nd) (x : Nd) : ∀ (d j : Nat), cntK l x j ≤ cntK l x (j + d)
 | 0, j => Nat.le_refl _
 | d + 1, j => Nat.le_trans (cntK_mono l x d j) (by rw [show j + (d + 1) = (j + d) + 1 by omega]; exact Nat.le_add_right _ _)
theorem count_small {l : List Nd} (h : looseB l = true) {i : Nat} (hi : i ≤ l.length) {M : Nat} (hM : M = 1329) : countT (den l i) ≤ 4 ^ M := by
 cases i with
 | zero => rw [den_zero]; exact Nat.zero_le _
 | succ p =>
  have hw := wf_den h p (by omega)
  have hv := fit_lv (loose_fit h (i := p) (by omega))
  obtain ⟨n, hn⟩ : ∃ n : Nat, (at_ l p).lv = (n : Int) := ⟨_, (Int.toNat_of_nonneg (by omega)).symm⟩
  rw [hn] at hw
  exact Nat.le_trans (countT_le _ n hw) (Nat.pow_le_pow_right (by decide) (by omega))
theorem cntK_small {l : List Nd} (h : looseB l = true) {i : Nat} (hi : i < l.length) {j : Nat} (hj : j ≤ 4) {M : Nat} (hM : M = 1329) : cntK l (at_ l i) j ≤ 4 ^ M := by
 have h1 := cntK_mono l (at_ l i) (4 - j) j
 rw [show j + (4 - j) = 4 by omega, cntK_den h hi] at h1
 exact Nat.le_trans h1 (count_small h (by omega) hM)
theorem count_len {s : Bool} {xs : List Nat} {m : Nat} (hc : CanonI s xs) (hv : ival s xs = (m : Int)) {M : Nat} (hM : M = 1329) (hm : m ≤ 4 ^ M) : xs.length ≤ 100 := by
 refine len_ival hc hv 100 ?_
 obtain ⟨K, hK⟩ : ∃ K, K = 100 := ⟨_, rfl⟩
 rw [← hK, Int.natAbs_natCast, show (4294967296 : Nat) = 2 ^ 32 by decide, ← Nat.pow_mul]
 rw [show (4 : Nat) = 2 ^ 2 by decide, ← Nat.pow_mul] at hm
 exact Nat.lt_of_le_of_lt hm (Nat.pow_lt_pow_right (by decide) (by omega))
theorem kid_none (l : List Nd) (v : Int) : kidT (dens l) v 0 = .e := by
 by_cases h : v = 1
 ·
  subst h
  rfl
 ·
  rw [kidT_den h]
  exact den_zero l
theorem kid_leaf (l : List Nd) {k : Int} (h : 1 ≤ k) : kidT (dens l) 1 k = .s k := by
 rw [kidT_one]
 unfold st
 rw [if_neg (by omega)]
theorem kid_den (l : List Nd) {v : Int} (h : v ≠ 1) (q : Nat) : kidT (dens l) v ((q : Int) + 1) = den l (q + 1) := by
 rw [kidT_den h, show ((q : Int) + 1).toNat = q + 1 by omega]
end Go.Proofs.YtmfncapgikobkaaGreat

namespace Go.Proofs.YtmfncapgikobkaaGreat
set_option maxRecDepth 100000
set_option linter.unusedVariables false
set_option linter.unusedSimpArgs false
open Go.RowKit Nds Num
structure CoW (w : World) (A : Option Addr) (c n : Nat) (l : List Nd) (gr : Nat) (L : List Gv) (k : Nat) (s : Bool) (B : Option Addr) (d : Nat) (xs : List Nat) (m : Int) (W : World) : Prop where
 b : Below w.heap.size w W
 q : W.heap[w.heap.size]? = some (.cells #[.slice A n c] 27)
 r : W.heap[w.heap.size + 1]? = some (.cells #[.bool false, .slice none 0 0] 42)
 ct : HX W (w.heap.size + 1 + 1) s B d xs m
 row : OwnG W w.heap.size gr n L
 gl : w.heap.size + 1 + 1 < gr
 fine : ∀ j, j < k → GIn W (gat L j) (countT (den l (j + 1)))
theorem CoW.next {w : World} {A : Option Addr} {c n : Nat} {l : List Nd} {gr : Nat} {L : List Gv} {k : Nat} {s : Bool} {B : Option Addr} {d : Nat} {xs : List Nat} {m : Int} {W W1 : World} (h : CoW w A c n l gr L k s B d xs m W) (g : Below W.heap.size W W1) : CoW w A c n l gr L k s B d xs m W1 :=
 ⟨h.b.trans (g.mono h.b.size), (g.block _ (by have := h.ct.lt; omega)).trans h.q, (g.block _ (by have := h.ct.lt; omega)).trans h.r, h.ct.next g, h.row.next g, h.gl, fun j hj => (h.fine j hj).next g⟩
theorem setC_two (w : World) (g o p : Nat) (a b : Value) : w.grownBy ((w.setCell ⟨g, o, none⟩ a).setCell ⟨g, p, none⟩ b) (some g) := gb_two (setC_one w g o a) (setC_one _ g p b)
theorem CoW.set {w : World} {A : Option Addr} {c n : Nat} {l : List Nd} {gr : Nat} {L : List Gv} {k : Nat} {s : Bool} {B : Option Addr} {d : Nat} {xs : List Nat} {m : Int} {W : World} (h : CoW w A c n l gr L k s B d xs m W)
  {s2 : Bool} {A2 : Option Addr} {c2 : Nat} {ys : List Nat} {m2 : Int} (hu : Us W A2 c2 ys) (hc : CanonI s2 ys) (hv : ival s2 ys = m2) :
  CoW w A c n l gr L k s2 A2 c2 ys m2 ((W.setCell ⟨w.heap.size + 1 + 1, 0, none⟩ (.bool s2)).setCell ⟨w.heap.size + 1 + 1, 1, none⟩ (.slice A2 ys.length c2)) := by
 have hg := setC_two W (w.heap.size + 1 + 1) 0 1 (.bool s2) (.slice A2 ys.length c2)
 have hlt := h.ct.lt
 have hgl := h.gl
 exact ⟨h.b.grown hg h.b.size (fun q e => by cases e; omega), (hg.block _ (by omega) (by simp; omega)).trans h.q, (hg.block _ (by omega) (by simp)).trans h.r, h.ct.set hu hc hv, h.row.kept hg (by simp; omega), h.gl, fun j hj => (h.fine j hj).over (bool_cell h.ct.box) hg⟩
theorem CoW.put {w : World} {A : Option Addr} {c n : Nat} {l : List Nd} {gr : Nat} {L : List Gv} {k : Nat} {s : Bool} {B : Option Addr} {d : Nat} {xs : List Nat} {m : Int} {W : World} (h : CoW w A c n l gr L k s B d xs m W) (hk : k < n) (hm : m = countT (den l (k + 1))) :
  CoW w A c n l gr (L.set k ⟨s, B, d, xs⟩) (k + 1) s B d xs m ((W.setCell ⟨gr, k * 2, none⟩ (.bool s)).setCell ⟨gr, k * 2 + 1, none⟩ (.slice B xs.length d)) := by
 have hg := setC_two W gr (k * 2) (k * 2 + 1) (.bool s) (.slice B xs.length d)
 have hlt := h.ct.lt
 have hgl := h.gl
 obtain ⟨r1, r2, r3, r4, r5⟩ := h.row.row
 have hct : HX ((W.setCell ⟨gr, k * 2, none⟩ (.bool s)).setCell ⟨gr, k * 2 + 1, none⟩ (.slice B xs.length d)) (w.heap.size + 1 + 1) s B d xs m :=
  ⟨(hg.block _ (by omega) (by simp; omega)).trans h.ct.box, us_kept h.ct.us (fun q h1 h2 => hg.block q h1 (fun e => h2 (by cases e; rfl))) hg.size (us_off h.ct.us r5), h.ct.cn, h.ct.v, h.ct.off⟩
 refine ⟨h.b.grown hg h.b.size (fun q e => by cases e; exact r1), (hg.block _ (by omega) (by simp; omega)).trans h.q, (hg.block _ (by omega) (by simp; omega)).trans h.r, hct, h.row.put hk ⟨s, B, d, xs⟩, h.gl, fun j hj => ?_⟩
 by_cases hjk : k = j
 ·
  subst hjk
  rw [gat_set_same (by rw [h.row.1]; exact hk)]
  exact ⟨hct.us, hct.cn, hct.v.trans hm⟩
 ·
  rw [gat_set_ne hjk]
  exact (h.fine j (by omega)).over r5 hg
set_option maxRecDepth 100000 in
set_option maxHeartbeats 3200000 in
theorem count_any (A : Option Addr) (c n : Nat) (l : List Nd) (w : World) (h : Ns w A c l) (hn : l.length = n) (hl : looseB l = true) (hn9 : n ≤ 900000) :
  Calls Tryz.prog 18 #[.agg #[.slice A n c]] w (RetI (countT (den l n) : Nat) w) := by
 have hcap := h.cap
 rw [hn] at hcap
 obtain ⟨M, hM⟩ : ∃ M, M = 1329 := ⟨_, rfl⟩
 have HM := Lib.hid hM
 have hlenOf : ∀ {s : Bool} {xs : List Nat} {m : Nat}, CanonI s xs → ival s xs = (m : Int) → m ≤ 4 ^ M → xs.length ≤ 100 := fun hc hv hm => count_len hc hv HM.out hm
 clear hM
 obtain ⟨i0, hi, hz0, hz1, hz2⟩ := info_parts Tryz.infoG
 have HI := Lib.hid (And.intro hi (And.intro hz0 (And.intro hz1 hz2)))
 obtain ⟨W, hW⟩ : ∃ W : World, W = ((w.alloc (.cells #[.slice A n c] 27)).alloc (.cells #[.bool false, .slice none 0 0] 42)).alloc (.cells #[.bool false, .slice none 0 0] 42) := ⟨_, rfl⟩
 have hb : Below w.heap.size w W := by rw [hW]; exact (((Below.refl _ w).alloc (Nat.le_refl _) _).alloc (by simp) _).alloc (by simp; omega) _
 have b1 : (w.alloc (.cells #[.slice A n c] 27)).heap[w.heap.size]? = some (.cells #[.slice A n c] 27) := heap_alloc_new w _
 have b2 := heap_alloc_new (w.alloc (.cells #[.slice A n c] 27)) (.cells #[.bool false, .slice none 0 0] 42)
 have b3 := heap_alloc_new ((w.alloc (.cells #[.slice A n c] 27)).alloc (.cells #[.bool false, .slice none 0 0] 42)) (.cells #[.bool false, .slice none 0 0] 42)
 rw [← hW] at b3
 have hQ : W.heap[w.heap.size]? = some (.cells #[.slice A n c] 27) := by rw [hW]; exact (Below.heap_alloc _ _ _ (by simp; omega)).trans ((Below.heap_alloc _ _ _ (by simp)).trans b1)
 have hR : W.heap[w.heap.size + 1]? = some (.cells #[.bool false, .slice none 0 0] 42) := by
  rw [show (w.alloc (.cells #[.slice A n c] 27)).heap.size = w.heap.size + 1 by simp] at b2
  rw [hW]; exact (Below.heap_alloc _ _ _ (by simp)).trans b2
 have hC : W.heap[w.heap.size + 1 + 1]? = some (.cells #[.bool false, .slice none 0 0] 42) := by
  rw [show ((w.alloc (.cells #[.slice A n c] 27)).alloc (.cells #[.bool false, .slice none 0 0] 42)).heap.size = w.heap.size + 1 + 1 by simp] at b3
  exact b3
 have hsz : W.heap.size = w.heap.size + 1 + 1 + 1 := by rw [hW]; simp
 have hcz : HX W (w.heap.size + 1 + 1) false none 0 [] 0 := ⟨hC, Us.nil W, ⟨canon_nil, fun e => by cases e⟩, rfl, fun h => by simp at h⟩
 have g0 := one_cell hQ
 have HQ := Lib.hid hQ
 have HR := Lib.hid hR
 have HC := Lib.hid hcz
 have HB := Lib.hid hb
 have HZ := Lib.hid hsz
 have HN := Lib.hid h
 have HL := Lib.hid hn
 have HLL := Lib.hid hl
 have HW := Lib.hid hW
 rw [hW] at g0
 clear h hn hl hi hz0 hz1 hz2 hQ hR hC hcz hb hsz hW b1 b2 b3
 go_enter Tryz.func18, Tryz.ntmps18
 go_wp2_with (first
  | (at_make; go_loud (rw [← HW.out]; refine wpList_make_full _ rfl _ _ 82 rfl w.heap.size 42 i0 _ 2 Tryz.underlying82 HI.out.1 HI.out.2.1 HI.out.2.2.1 .i64 .i64 _ _ n rfl rfl (by omega) (by omega) (by rw [HI.out.2.2.2]; omega) (by unfold maxLen; omega) HB.out.size ?_; intro w0 hown0 hgrow0; have hb0 : Below W.heap.size W w0 := (Below.refl _ _).grown hgrow0 (Nat.le_refl _) (fun k hk => by cases hk); have g1 := one_cell ((hb0.block w.heap.size (by have := HZ.out; omega)).trans HQ.out); have own0 := Lib.hid (OwnG.made hown0); have HB0 := Lib.hid hb0; clear hown0 hgrow0 hb0)))
 have S0 := Lib.hid (show CoW w A c n l W.heap.size (List.replicate n gv0) 0 false none 0 [] 0 w0 from
  ⟨HB.out.trans (HB0.out.mono HB.out.size), (HB0.out.block _ (by have := HZ.out; omega)).trans HQ.out, (HB0.out.block _ (by have := HZ.out; omega)).trans HR.out, HC.out.next HB0.out,
   ⟨own0.out.1, own0.out.2⟩, by have := HZ.out; omega, fun j hj => by omega⟩)
 obtain ⟨gr, hgr⟩ : ∃ g, g = W.heap.size := ⟨_, rfl⟩
 rw [← hgr] at S0 ⊢
 clear hgr own0 g0 g1
 go_loopw [16] (fun z wr => ∃ (k : Nat) (L : List Gv) (s : Bool) (B : Option Addr) (d : Nat) (xs : List Nat), k ≤ n ∧ z = .int .i64 k ∧ CoW w A c n l gr L k s B d xs (countT (den l k) : Nat) wr) (fun z _ => n - (intOf z).toNat)
 case atStart => exact ⟨0, _, _, _, _, _, Nat.zero_le _, rfl, by rw [den_zero]; exact S0.out⟩
 case round =>
  obtain ⟨k, L, s, B, d, xs, hk, rfl, R⟩ := hrel
  have RR := Lib.hid R
  have q0 := R.ct.c0
  have q1 := R.ct.c1
  have q2 := R.ct.free 0
  have q3 := R.ct.free 1
  have hdc := R.ct.us.cap
  by_cases hlt : k < n
  ·
   have i1 : (k : Int) < (n : Int) := by omega
   have i2 : (0 : Int) ≤ (k : Int) := by omega
   have t1 : decide ((k : Int) < (n : Int)) = true := decide_eq_true i1
   obtain ⟨b, off, rfl, hbl, hcl⟩ := (HN.out.below R.b).at_ (by rw [HL.out]; omega)
   obtain ⟨c1_, c2_, c3_, c4_, c5_⟩ := hcl k (by rw [HL.out]; exact hlt)
   have hfx := Lib.hid (loose_iff.1 HLL.out k (by rw [HL.out]; exact hlt))
   obtain ⟨x, hx⟩ : ∃ x, x = at_ l k := ⟨_, rfl⟩
   rw [← hx] at c1_ c2_ c3_ c4_ c5_ hfx
   have hxv := fit_lv hfx.out
   have HX_ := Lib.hid hx
   clear hx hcl R
   have n1 := cell_alloc_l (.cells #[.int .i64 x.lv, .int .i64 x.a, .int .i64 x.b, .int .i64 x.c, .int .i64 x.d] 56) q0
   have n2 := cell_alloc_l (.cells #[.int .i64 x.lv, .int .i64 x.a, .int .i64 x.b, .int .i64 x.c, .int .i64 x.d] 56) q1
   have n3 := frozen_alloc_l (.cells #[.int .i64 x.lv, .int .i64 x.a, .int .i64 x.b, .int .i64 x.c, .int .i64 x.d] 56) q0 q2
   have n4 := frozen_alloc_l (.cells #[.int .i64 x.lv, .int .i64 x.a, .int .i64 x.b, .int .i64 x.c, .int .i64 x.d] 56) q1 q3
   have n5 := World.new_ne wr _ q0
   go_wp2_with fail
   have hba : Below wr.heap.size wr (wr.alloc (.cells #[.int .i64 x.lv, .int .i64 x.a, .int .i64 x.b, .int .i64 x.c, .int .i64 x.d] 56)) := (Below.refl _ wr).alloc (Nat.le_refl _) _
   have S1 := Lib.hid ((RR.out.next hba).set (Us.nil _) ⟨canon_nil, fun e => by cases e⟩ (show ival false [] = ((0 : Nat) : Int) from rfl))
   have hbx := NdBox.new wr x
   have hlt2 := RR.out.ct.lt
   obtain ⟨bn, hbn⟩ : ∃ b, b = wr.heap.size := ⟨_, rfl⟩
   rw [← hbn] at hbx hlt2 ⊢
   have N1 := Lib.hid (hbx.stay ((setC_two _ (w.heap.size + 1 + 1) 0 1 (.bool false) (.slice none 0 0)).block bn hbx.lt (by simp; omega)))
   have HLT := Lib.hid hlt2
   have HK := Lib.hid hlt
   clear hba hbx hlt2 hbn n1 n2 n3 n4 n5 q0 q1 q2 q3 c1_ c2_ c3_ c4_ c5_ hbl hlt
   go_loopw [24] (fun z wi => ∃ (j : Nat) (s : Bool) (B : Option Addr) (d : Nat) (xs : List Nat), j ≤ 4 ∧ z = .int .i64 j ∧ CoW w (some ⟨b, off, none⟩) c n l gr L k s B d xs (cntK l x j : Nat) wi ∧ NdBox wi bn x) (fun z _ => 4 - (intOf z).toNat)
   case atStart => exact ⟨0, _, _, _, _, by omega, rfl, S1.out, N1.out⟩
   case round =>
    obtain ⟨j, s, B, d, xs, hj, rfl, R, hnb⟩ := hrel
    have RI := Lib.hid R
    have NB := Lib.hid hnb
    have q0 := R.ct.c0
    have q1 := R.ct.c1
    have q2 := R.ct.free 0
    have q3 := R.ct.free 1
    have hdc := R.ct.us.cap
    obtain ⟨k0, -, -, -, -⟩ := hnb.at_
    have hlen := hlenOf R.ct.cn R.ct.v (HX_.out ▸ cntK_small HLL.out (show k < l.length by rw [HL.out]; exact HK.out) hj HM.out)
    clear R hnb
    by_cases hlt : j < 4
    ·
     have hi := index4 x j hlt
     have hfk := fit_kid hfx.out hlt
     obtain ⟨y, hy⟩ : ∃ y, y = x.kid j := ⟨_, rfl⟩
     rw [← hy] at hi hfk
     have HY := Lib.hid hy
     have HFK := Lib.hid hfk
     clear hy hfk
     by_cases hy0 : y = 0
     ·
      subst hy0
      have HS := Lib.hid (show cntK l x (j + 1) = cntK l x j by show cntK l x j + countT (kidT (dens l) x.lv (x.kid j)) = _; rw [← HY.out, kid_none]; rfl)
      go_wp2_with fail
      go_roundw
      case rel => exact ⟨j + 1, s, B, d, xs, by omega, by go_num, by rw [HS.out]; exact RI.out, NB.out⟩
      case measure => simp [intOf]; omega
     ·
      have t0 : (y == 0) = false := beq_eq_false_iff_ne.2 hy0
      have HY0 := Lib.hid hy0
      clear hy0
      by_cases hv : x.lv = 1
      ·
       have t1 : (x.lv == 1) = true := by rw [hv]; rfl
       have HV := Lib.hid hv
       clear hv
       have st : Below wr.heap.size wr wr.drew := below_drewN (Below.refl _ wr) 1
       have ST := Lib.hid st
       have HS := Lib.hid (show cntK l x (j + 1) = cntK l x j + 1 by
        show cntK l x j + countT (kidT (dens l) x.lv (x.kid j)) = _
        have h1 := HFK.out
        rw [HV.out, kidB_one, decide_eq_true_iff] at h1
        rw [← HY.out, HV.out, kid_leaf l (by have := HY0.out; omega)]
        rfl)
       clear st
       go_wp2_with fail
       go_region_with (first
         | (go_at_call 49; go_loud (refine (bof_any 1 _ (by decide) (by decide)).mono ?_; rintro e w5 ⟨A5, c5, s5, r5, rfl, u5, k5, v5, b5⟩; have R5 := (RI.out.next ST.out).next b5; have q0 := R5.ct.c0; have q1 := R5.ct.c1; have HR5 := Lib.hid R5; have U5 := Lib.hid u5; have HV5 := Lib.hid v5; have hl5 : r5.length ≤ 60000 := Nat.le_trans (len_ival k5 v5 1 (by decide)) (by decide); clear R5 u5 v5))
         | (go_at_call 48; go_loud (refine (badd_any s s5 _ _ _ _ xs r5 _ HR5.out.ct.us U5.out (by omega) hl5).mono ?_; rintro e w6 ⟨A6, c6, s6, r6, rfl, u6, k6, v6, b6⟩; have R6 := HR5.out.next b6; have q0 := R6.ct.c0; have q1 := R6.ct.c1; have q2 := R6.ct.free 0; have q3 := R6.ct.free 1; have HR6 := Lib.hid R6; have HB6 := Lib.hid (b5.trans (b6.mono b5.size)); have U6 := Lib.hid u6; have K6 := Lib.hid k6; have HV6 := Lib.hid v6; clear R6 u6 k6 v6)))
       all_goals
        go_wp2_with fail
        go_roundw
        case rel =>
         refine ⟨j + 1, s6, A6, c6, r6, by omega, by go_num, HR6.out.set U6.out K6.out ?_, NB.out.stay ?_⟩
         ·
          rw [HV6.out, HV5.out, RI.out.ct.v, HS.out]
          omega
         ·
          have h1 := HLT.out
          exact ((setC_two w6 (w.heap.size + 1 + 1) 0 1 (.bool s6) (.slice A6 r6.length c6)).block bn (Nat.lt_of_lt_of_le NB.out.lt HB6.out.size) (by simp; omega)).trans (HB6.out.block bn NB.out.lt)
        case measure => simp [intOf]; omega
      ·
       have t1 : (x.lv == 1) = false := beq_eq_false_iff_ne.2 hv
       have HV := Lib.hid hv
       obtain ⟨q, rfl, hq, hql⟩ : ∃ q : Nat, y = (q : Int) + 1 ∧ q < k ∧ True := by
        rcases kid_up hv HFK.out with h | ⟨q, h1, h2, _⟩
        ·
         exact absurd h HY0.out
        ·
         exact ⟨q, h1, by have := List.length_take_le k l; omega, trivial⟩
       clear hql hv
       have st : Below wr.heap.size wr wr.drew := below_drewN (Below.refl _ wr) 1
       have ST := Lib.hid st
       have HS := Lib.hid (show cntK l x (j + 1) = cntK l x j + countT (den l (q + 1)) by
        show cntK l x j + countT (kidT (dens l) x.lv (x.kid j)) = _
        rw [← HY.out, kid_den l HV.out])
       have hG := Lib.hid (((RI.out.next ST.out).fine q hq))
       have hGl := hlenOf hG.out.cn hG.out.v (count_small HLL.out (show q + 1 ≤ l.length by have := HL.out; have := HK.out; omega) HM.out)
       obtain ⟨r1, r2, r3, r4, r5⟩ := RI.out.row.row
       obtain ⟨a1, a2⟩ := r3 q (by have := HK.out; omega)
       obtain ⟨g, hg⟩ : ∃ g, g = gat L q := ⟨_, rfl⟩
       rw [← hg] at a1 a2 hG hGl
       have hgc := hG.out.us.cap
       have i3 : (0 : Int) ≤ (q : Int) := by omega
       have i4 : (q : Int) < (n : Int) := by have := HK.out; omega
       have i5 : IntKind.i64.wrap ((q : Int) + 1 - 1) = (q : Int) := by rw [show (q : Int) + 1 - 1 = (q : Int) by omega]; simp [IntKind.wrap, IntKind.bits, IntKind.signed]; omega
       have i6 : IntKind.i64.wrap (q : Int) = (q : Int) := by simp [IntKind.wrap, IntKind.bits, IntKind.signed]; omega
       clear hg st r1 r2 r3 r4 r5
       go_wp2_with fail
       go_still_tail 6, (by kernel_rfl)
       change wpList _ _ _ _ _ wr.drew
       go_wp2_with (go_at_call 48; go_loud (refine (badd_any s g.s _ _ _ _ xs g.xs _ (RI.out.next ST.out).ct.us hG.out.us (by omega) (by omega)).mono ?_; rintro e w6 ⟨A6, c6, s6, r6, rfl, u6, k6, v6, b6⟩; have R6 := (RI.out.next ST.out).next b6; have q0 := R6.ct.c0; have q1 := R6.ct.c1; have q2 := R6.ct.free 0; have q3 := R6.ct.free 1; have HR6 := Lib.hid R6; have HB6 := Lib.hid b6; have U6 := Lib.hid u6; have K6 := Lib.hid k6; have HV6 := Lib.hid v6; clear R6 u6 k6 v6 b6))
       go_roundw
       case rel =>
        refine ⟨j + 1, s6, A6, c6, r6, by omega, by go_num, HR6.out.set U6.out K6.out ?_, NB.out.stay ?_⟩
        ·
         rw [HV6.out, RI.out.ct.v, hG.out.v, HS.out]
         omega
        ·
         have h1 := HLT.out
         exact ((setC_two w6 (w.heap.size + 1 + 1) 0 1 (.bool s6) (.slice A6 r6.length c6)).block bn (Nat.lt_of_lt_of_le NB.out.lt HB6.out.size) (by simp; omega)).trans (HB6.out.block bn NB.out.lt)
       case measure => simp [intOf]; omega
    ·
     obtain rfl : j = 4 := by omega
     have HS := Lib.hid (show cntK l x 4 = countT (den l (k + 1)) by rw [HX_.out, cntK_den HLL.out (by rw [HL.out]; exact HK.out)])
     obtain ⟨r1, r2, r3, r4, r5⟩ := RI.out.row.row
     obtain ⟨a1, a2⟩ := r3 k HK.out
     have a3 := r4 (k * 2)
     have a4 := r4 (k * 2 + 1)
     have i3 : (0 : Int) ≤ (k : Int) := by omega
     clear hj hlt r1 r2 r3 r4 r5
     go_wp2_with fail
     go_roundw
     case rel =>
      have h1 := RI.out.put HK.out (by rw [HS.out])
      exact ⟨k + 1, _, _, _, _, _, HK.out, by go_num, by rw [← HS.out]; exact h1⟩
     case measure => have := HK.out; simp [intOf]; omega
  ·
   obtain rfl : k = n := by omega
   have t1 : decide ((k : Int) < (k : Int)) = false := decide_eq_false (by omega)
   obtain ⟨y1, y2⟩ : wr.cell? ⟨w.heap.size + 1, 0, none⟩ = some (.bool false) ∧ wr.cell? ⟨w.heap.size + 1, 1, none⟩ = some (.slice none 0 0) := ⟨by rw [cell_of_row wr _ _ _ _ _ R.r]; rfl, by rw [cell_of_row wr _ _ _ _ _ R.r]; rfl⟩
   have y3 := frozen_of_row wr _ 0 _ _ R.r
   have y4 := frozen_of_row wr _ 1 _ _ R.r
   have HY := Lib.hid (show Box wr (w.heap.size + 1) (.bool false) (.slice none 0 0) from ⟨y1, y2, y3, y4, by have := R.ct.lt; omega⟩)
   clear R
   go_wp2_with fail
   obtain ⟨e1, e2, _, _, _⟩ := HY.out.set (.bool s) (.slice B xs.length d)
   refine bodyPost_ret (v := .agg #[.bool s, .slice B xs.length d]) (by simp [results, Tryz.results18, go_sem, e1, e2]) rfl ?_
   exact RetI.box (by omega) HY.out RR.out.ct.us RR.out.ct.cn RR.out.ct.v RR.out.b
end Go.Proofs.YtmfncapgikobkaaGreat

namespace Go.Proofs.YtmfncapgikobkaaGreat
set_option maxRecDepth 100000
set_option linter.unusedVariables false
set_option linter.unusedSimpArgs false
theorem wpAnyH_states {P : Program} {md : Region.Mode} {ops : Array Oper} {Q : Exit → Act → World → Prop} {S : World → Prop} {T : Type} (rank : T → Nat) (mask : T → Array Bool) (left : T → Nat) (inv : T → Act → World → Prop)
  (h : ∀ s, (∀ s', rank s' < rank s → ∀ a w, inv s' a w → wpAnyH P md ops Q S (left s') (mask s') a w) → ∀ a w, inv s a w → wpAnyH P md ops Q S (left s) (mask s) a w) :
  ∀ (s : T) (a : Act) (w : World), inv s a w → wpAnyH P md ops Q S (left s) (mask s) a w := by
 have key : ∀ (n : Nat) (s : T), rank s ≤ n → ∀ (a : Act) (w : World), inv s a w → wpAnyH P md ops Q S (left s) (mask s) a w := by
  intro n
  induction n with
  | zero => exact fun s hs => h s (fun s' hs' => by omega)
  | succ n ih => exact fun s hs => h s (fun s' hs' => ih s' (by omega))
 exact fun s => key (rank s) s (Nat.le_refl _)
theorem wpAnyH_states2 {P : Program} {md : Region.Mode} {ops : Array Oper} {Q : Exit → Act → World → Prop} {S : World → Prop} {T : Type} (rank : T → Nat) (mask : T → Array Bool) (left : T → Nat) (inv : T → Act → World → Prop)
  (h : ∀ s, (∀ s' k m, rank s' < rank s → k = left s' → m = mask s' → ∀ a w, inv s' a w → wpAnyH P md ops Q S k m a w) → ∀ a w, inv s a w → wpAnyH P md ops Q S (left s) (mask s) a w) :
  ∀ (s : T) (k : Nat) (m : Array Bool), k = left s → m = mask s → ∀ (a : Act) (w : World), inv s a w → wpAnyH P md ops Q S k m a w := by
 intro s k m hk hm a w hi
 subst hk hm
 exact wpAnyH_states rank mask left inv (fun s ih => h s (fun s' k m hr hk hm a w hi => by subst hk hm; exact ih s' hr a w hi)) s a w hi
end Go.Proofs.YtmfncapgikobkaaGreat

namespace Go.Proofs.YtmfncapgikobkaaGreat
set_option maxRecDepth 100000
set_option linter.unusedVariables false
set_option linter.unusedSimpArgs false
open Nds Num
theorem listT_mk (m : Nat) (a b c d : Tr) (X Y : Int) : listT (mk ((m : Int) + 1) a b c d) X Y = listT a X Y ++ listT b (X + p2 m) Y ++ listT c X (Y + p2 m) ++ listT d (X + p2 m) (Y + p2 m) := by
 unfold mk
 split
 ·
  rename_i h
  obtain ⟨rfl, rfl, rfl, rfl⟩ := allE_iff.1 h
  rfl
 ·
  show listT a X Y ++ listT b (X + p2 (((m : Int) + 1).toNat - 1)) Y ++ listT c X (Y + p2 (((m : Int) + 1).toNat - 1)) ++ listT d (X + p2 (((m : Int) + 1).toNat - 1)) (Y + p2 (((m : Int) + 1).toNat - 1)) = _
  rw [show ((m : Int) + 1).toNat - 1 = m by omega]
def listK (l : List Nd) (x : Nd) (m : Nat) (X Y : Int) : Nat → List Cl
 | 0 => []
 | j + 1 => listK l x m X Y j ++ listT (kidT (dens l) x.lv (x.kid j)) (X + offI (p2 m) j) (Y + offJ (p2 m) j)
theorem listK_four (l : List Nd) (x : Nd) (m : Nat) (X Y : Int) (h : x.lv = (m : Int) + 1) : listK l x m X Y 4 = listT (norm (dens l) x) X Y := by
 unfold norm
 rw [h, listT_mk, ← h]
 show ((([] ++ listT (kidT (dens l) x.lv x.a) (X + 0) (Y + 0)) ++ listT (kidT (dens l) x.lv x.b) (X + p2 m) (Y + 0)) ++ listT (kidT (dens l) x.lv x.c) (X + 0) (Y + p2 m)) ++ listT (kidT (dens l) x.lv x.d) (X + p2 m) (Y + p2 m) = _
 rw [Int.add_zero, Int.add_zero, List.nil_append]
theorem listK_len (l : List Nd) (x : Nd) (m : Nat) (X Y : Int) : ∀ j, (listK l x m X Y j).length = cntK l x j
 | 0 => rfl
 | j + 1 => by
  show (listK l x m X Y j ++ _).length = cntK l x j + _
  rw [List.length_append, listK_len l x m X Y j, listT_len]
theorem listK_none (l : List Nd) (x : Nd) (m : Nat) (X Y : Int) {j : Nat} (h : x.kid j = 0) : listK l x m X Y (j + 1) = listK l x m X Y j := by
 show listK l x m X Y j ++ listT (kidT (dens l) x.lv (x.kid j)) _ _ = _
 rw [h, kid_none]
 exact List.append_nil _
theorem off_x (m a : Nat) (H : Int) {j : Nat} (hj : j < 4) : ((2 * a + j % 2 : Nat) : Int) * p2 m - H = (a : Int) * p2 (m + 1) - H + offI (p2 m) j := by
 rw [p2_succ, Int.mul_add]
 have e : ((2 * a + j % 2 : Nat) : Int) * p2 m = (a : Int) * p2 m + (a : Int) * p2 m + ((j % 2 : Nat) : Int) * p2 m := by
  rw [show ((2 * a + j % 2 : Nat) : Int) = (a : Int) + (a : Int) + ((j % 2 : Nat) : Int) by omega, Int.add_mul, Int.add_mul]
 rw [e]
 obtain rfl | rfl | rfl | rfl : j = 0 ∨ j = 1 ∨ j = 2 ∨ j = 3 := by omega
 all_goals simp [offI]
 all_goals omega
theorem off_y (m a : Nat) (H : Int) {j : Nat} (hj : j < 4) : ((2 * a + j / 2 : Nat) : Int) * p2 m - H = (a : Int) * p2 (m + 1) - H + offJ (p2 m) j := by
 rw [p2_succ, Int.mul_add]
 have e : ((2 * a + j / 2 : Nat) : Int) * p2 m = (a : Int) * p2 m + (a : Int) * p2 m + ((j / 2 : Nat) : Int) * p2 m := by
  rw [show ((2 * a + j / 2 : Nat) : Int) = (a : Int) + (a : Int) + ((j / 2 : Nat) : Int) by omega, Int.add_mul, Int.add_mul]
 rw [e]
 obtain rfl | rfl | rfl | rfl : j = 0 ∨ j = 1 ∨ j = 2 ∨ j = 3 := by omega
 all_goals simp [offJ]
 all_goals omega
theorem half_div (a b : Nat) (hb : b < 2) {n m : Nat} (h : n / 2 ^ m = 2 * a + b) : n / 2 ^ (m + 1) = a := by
 rw [Nat.pow_succ, ← Nat.div_div_eq_div_mul, h]
 omega
end Go.Proofs.YtmfncapgikobkaaGreat
