/-
  cells, the law's own: cell; the fixed fact.
  cells: the fixed fact.
  cells: CellsList, the walk.
-/
import Derived.Test.YtmfncapgikobkaaGreatGClRm
import Derived.Test.YtmfncapgikobkaaGreatGClRa
import Derived.Test.YtmfncapgikobkaaGreatGSmall
import Derived.Test.YtmfncapgikobkaaGreatGClSa
import Derived.Test.YtmfncapgikobkaaGreatClLi
import Derived.Test.YtmfncapgikobkaaGreatGNcPB

namespace Go.Proofs.YtmfncapgikobkaaGreat
set_option maxRecDepth 100000
set_option linter.unusedVariables false
set_option linter.unusedSimpArgs false
open Go.RowKit Nds Num
def RetCe (x y : Int) (s : Nat) (w : World) (e : Ending) (w' : World) : Prop :=
 ∃ u : Cv, e = .returned (cvv u) ∧ u.cl = ⟨x, y, s⟩ ∧ CvU w' u ∧ CvR u ∧ u.st = s ∧ Below w.heap.size w w'
set_option maxRecDepth 100000 in
set_option maxHeartbeats 3200000 in
theorem cell_any (x y : Int) (s : Nat) (w : World) (hs : s ≤ 255) (hx0 : -9223372036854775808 ≤ x) (hx1 : x ≤ 9223372036854775807) (hy0 : -9223372036854775808 ≤ y) (hy1 : y ≤ 9223372036854775807) :
  Calls Tryz.prog 24 #[.int .i64 x, .int .i64 y, .int .u8 s] w (RetCe x y s w) := by
 have hp0 := p2_mono (show 63 ≤ 1330 by omega)
 have hp1 : p2 63 = 9223372036854775808 := by decide
 have HMX := Lib.hid (show -p2 1330 ≤ x ∧ x ≤ p2 1330 from ⟨by omega, by omega⟩)
 have HMY := Lib.hid (show -p2 1330 ≤ y ∧ y ≤ p2 1330 from ⟨by omega, by omega⟩)
 obtain ⟨W, hW⟩ : ∃ W : World, W = w.alloc (.cells #[.bool false, .slice none 0 0, .bool false, .slice none 0 0, .int .u8 0] 47) := ⟨_, rfl⟩
 have hb : Below w.heap.size w W := by rw [hW]; exact (Below.refl _ w).alloc (Nat.le_refl _) _
 have HWL := Lib.hid (show w.heap.size < W.heap.size by rw [hW]; simp)
 have HB1 := Lib.hid (show W.heap[w.heap.size]? = some (.cells #[.bool false, .slice none 0 0, .bool false, .slice none 0 0, .int .u8 0] 47) by rw [hW]; exact heap_alloc_new w _)
 have HW := Lib.hid hW
 have HB := Lib.hid hb
 have q0 : True := trivial
 clear hp0 hp1 hW hb
 go_enter Tryz.func24, Tryz.ntmps24
 go_wp2_with (first
  | (have _t := q0; go_at_call 22; clear _t; go_loud (rw [← HW.out]; refine (rbof_any x _ hx0 hx1).mono ?_; rintro e w5 ⟨A5, c5, s5, r5, rfl, u5, k5, v5, b5⟩; have L5 := Lib.hid (len_near k5 v5 HMX.out.1 HMX.out.2); have hcap5 := u5.cap; have U5 := Lib.hid u5; have K5 := Lib.hid k5; have V5 := Lib.hid v5; have B5 := Lib.hid b5; clear u5 k5 v5 b5; have q1 := q0; clear q0))
  | (have _t := q1; go_at_call 22; clear _t; go_loud (refine (rbof_any y _ hy0 hy1).mono ?_; rintro e w6 ⟨A6, c6, s6, r6, rfl, u6, k6, v6, b6⟩; have L6 := Lib.hid (len_near k6 v6 HMY.out.1 HMY.out.2); have hcap6 := u6.cap; have U6 := Lib.hid u6; have K6 := Lib.hid k6; have V6 := Lib.hid v6; have U56 := Lib.hid (U5.out.below b6); have B6 := Lib.hid (B5.out.trans (b6.mono B5.out.size)); have Q6 := Lib.hid ((B6.out.block w.heap.size HWL.out).trans HB1.out); have z0 := cell_of_row w6 w.heap.size 0 _ _ (0, 0) Q6.out; have z1 := cell_of_row w6 w.heap.size 1 _ _ (0, 0) Q6.out; have z2 := cell_of_row w6 w.heap.size 2 _ _ (0, 0) Q6.out; have z3 := cell_of_row w6 w.heap.size 3 _ _ (0, 0) Q6.out; have z4 := cell_of_row w6 w.heap.size 4 _ _ (0, 0) Q6.out; have y0 := (show w6.frozen? ⟨w.heap.size, 0, none⟩ = false from frozen_of_row _ _ _ _ _ Q6.out); have y1 := (show w6.frozen? ⟨w.heap.size, 1, none⟩ = false from frozen_of_row _ _ _ _ _ Q6.out); have y2 := (show w6.frozen? ⟨w.heap.size, 2, none⟩ = false from frozen_of_row _ _ _ _ _ Q6.out); have y3 := (show w6.frozen? ⟨w.heap.size, 3, none⟩ = false from frozen_of_row _ _ _ _ _ Q6.out); have y4 := (show w6.frozen? ⟨w.heap.size, 4, none⟩ = false from frozen_of_row _ _ _ _ _ Q6.out); clear  u6 k6 v6 b6 q1)))
 have O6 : OwnC w6 w.heap.size (.slice (some ⟨w.heap.size, 0, none⟩) 1 1) [cv0] := ⟨rfl, .inr ⟨w.heap.size, 1, _, rfl, Nat.le_refl _, Q6.out, Nat.le_refl _, by simp [maxLen], rfl, rfl⟩⟩
 obtain ⟨u, hu⟩ : ∃ u : Cv, u = ⟨s5, A5, c5, r5, s6, A6, c6, r6, s⟩ := ⟨_, rfl⟩
 have OF := O6.put rfl (i := 0) (by omega) u
 have hG := setC_grown w6 w.heap.size 0 (.bool s5) (.slice A5 r5.length c5) (.bool s6) (.slice A6 r6.length c6) (.int .u8 s)
 rw [hu] at OF
 obtain ⟨Wf, hWf⟩ : ∃ V : World, V = ((((w6.setCell ⟨w.heap.size, 0, none⟩ (.bool s5)).setCell ⟨w.heap.size, 1, none⟩ (.slice A5 r5.length c5)).setCell ⟨w.heap.size, 2, none⟩ (.bool s6)).setCell ⟨w.heap.size, 3, none⟩ (.slice A6 r6.length c6)).setCell ⟨w.heap.size, 4, none⟩ (.int .u8 s) := ⟨_, rfl⟩
 rw [← hWf]
 have OF := (show OwnC Wf w.heap.size (.slice (some ⟨w.heap.size, 0, none⟩) 1 1) ([cv0].set 0 ⟨s5, A5, c5, r5, s6, A6, c6, r6, s⟩) by rw [hWf]; exact OF)
 have hG := (show w6.grownBy Wf (some w.heap.size) by rw [hWf]; exact hG)
 clear hWf z0 z1 z2 z3 z4 y0 y1 y2 y3 y4
 obtain ⟨A', c', e', -, -, -, h5⟩ := OF.shape
 cases e'
 obtain ⟨g', hg', -, -, hc, -⟩ := h5 _ rfl
 cases hg'
 obtain ⟨e0, e1, e2, e3, e4⟩ := hc 0 (by simp)
 have hlim := O6.no_limb rfl
 have hus : ∀ {A : Option Addr} {c : Nat} {xs : List Nat}, Us w6 A c xs → Us Wf A c xs := fun hu => us_kept hu (fun q h1 h3 => hG.block q h1 (fun e => h3 (Option.some.inj e))) hG.size (us_off hu hlim)
 refine bodyPost_ret (v := .agg #[.bool s5, .slice A5 r5.length c5, .bool s6, .slice A6 r6.length c6, .int .u8 s]) ?_ rfl ?_
 ·
  have e0 := (show Wf.cell? ⟨w.heap.size, 0, none⟩ = some (.bool s5) from e0)
  have e1 := (show Wf.cell? ⟨w.heap.size, 1, none⟩ = some (.slice A5 r5.length c5) from e1)
  have e2 := (show Wf.cell? ⟨w.heap.size, 2, none⟩ = some (.bool s6) from e2)
  have e3 := (show Wf.cell? ⟨w.heap.size, 3, none⟩ = some (.slice A6 r6.length c6) from e3)
  have e4 := (show Wf.cell? ⟨w.heap.size, 4, none⟩ = some (.int .u8 s) from e4)
  simp [results, Tryz.results24, go_sem, e0, e1, e2, e3, e4]
 ·
  refine ⟨⟨s5, A5, c5, r5, s6, A6, c6, r6, s⟩, rfl, ?_, ⟨hus U56.out, hus U6.out, hs⟩, ⟨K5.out, K6.out, by have := L5.out; dsimp only; omega, by have := L6.out; dsimp only; omega⟩, rfl, (HB.out.trans (B6.out.mono HB.out.size)).grown hG (Nat.le_trans HB.out.size B6.out.size) (fun q hq => by rw [← Option.some.inj hq]; exact Nat.le_refl _)⟩
  show (⟨ival s5 r5, ival s6 r6, (s : Int)⟩ : Cl) = ⟨x, y, s⟩
  rw [V5.out, V6.out]
/- The fixed fact's quads. -/
def two7 : List Nd := [⟨1, 1, 0, 0, 2⟩]
def far7 : List Nd := [⟨1, 0, 0, 0, 7⟩, ⟨2, 1, 0, 0, 0⟩, ⟨3, 0, 0, 0, 2⟩, ⟨4, 0, 3, 0, 0⟩]
theorem two7_cells : lastF [⟨0, 0, 2⟩, ⟨-1, -1, 1⟩] = cellsL two7 := by kernel_rfl
theorem far7_cells : lastF [⟨0, 0, 2⟩, ⟨5, -3, 7⟩, ⟨0, 0, 0⟩] = cellsL far7 := by kernel_rfl
theorem two7_self : OfL two7 two7.length = two7 := by kernel_rfl
theorem far7_self : OfL far7 far7.length = far7 := by kernel_rfl
theorem two7_least : leastF (lastF [⟨0, 0, 2⟩, ⟨-1, -1, 1⟩]) = 1 := by kernel_rfl
theorem far7_least : leastF (lastF [⟨0, 0, 2⟩, ⟨5, -3, 7⟩, ⟨0, 0, 0⟩]) = 4 := by kernel_rfl
theorem two7_loose : looseB two7 = true := by kernel_rfl
theorem far7_loose : looseB far7 = true := by kernel_rfl
theorem two7_quad {out : List Nd} (h : QuadOf (lastF [⟨0, 0, 2⟩, ⟨-1, -1, 1⟩]) out) : out = two7 := by
 have k := quadOf_self two7_loose
 rw [two7_self, ← two7_cells] at k
 exact quadOf_one h k fun _ _ => rfl
theorem far7_quad {out : List Nd} (h : QuadOf (lastF [⟨0, 0, 2⟩, ⟨5, -3, 7⟩, ⟨0, 0, 0⟩]) out) : out = far7 := by
 have k := quadOf_self far7_loose
 rw [far7_self, ← far7_cells] at k
 exact quadOf_one h k fun _ _ => rfl
theorem far7_list : cellsL far7 = [⟨5, -3, 7⟩] := by kernel_rfl
theorem two7_count : countT (den two7 two7.length) = 2 := by kernel_rfl
theorem far7_count : countT (den far7 far7.length) = 1 := by kernel_rfl
theorem cs_lit2 {w : World} {g : Nat} (u v : Cv) (h : w.heap[g]? = some (.cells #[.bool u.sx, .slice u.ax u.xs.length u.cx, .bool u.sy, .slice u.ay u.ys.length u.cy, .int .u8 u.st, .bool v.sx, .slice v.ax v.xs.length v.cx, .bool v.sy, .slice v.ay v.ys.length v.cy, .int .u8 v.st] 47)) (hu : CvU w u) (hv : CvU w v) : Cs w (some ⟨g, 0, none⟩) 2 [u, v] := by
 refine ⟨fun x hx => ?_, Nat.le_refl _, by simp [maxLen], fun _ => ⟨g, 0, rfl, (Array.getElem?_eq_some_iff.1 h).1, fun i hi => ?_⟩⟩
 ·
  simp only [List.mem_cons, List.not_mem_nil, or_false] at hx
  rcases hx with rfl | rfl
  ·
   exact hu
  ·
   exact hv
 ·
  match i, hi with
  | 0, _ => refine ⟨?_, ?_, ?_, ?_, ?_⟩ <;> (rw [cell_of_row _ _ _ _ _ _ h]; rfl)
  | 1, _ => refine ⟨?_, ?_, ?_, ?_, ?_⟩ <;> (rw [cell_of_row _ _ _ _ _ _ h]; rfl)
theorem cs_lit3 {w : World} {g : Nat} (u v t : Cv) (h : w.heap[g]? = some (.cells #[.bool u.sx, .slice u.ax u.xs.length u.cx, .bool u.sy, .slice u.ay u.ys.length u.cy, .int .u8 u.st, .bool v.sx, .slice v.ax v.xs.length v.cx, .bool v.sy, .slice v.ay v.ys.length v.cy, .int .u8 v.st, .bool t.sx, .slice t.ax t.xs.length t.cx, .bool t.sy, .slice t.ay t.ys.length t.cy, .int .u8 t.st] 47)) (hu : CvU w u) (hv : CvU w v) (ht : CvU w t) : Cs w (some ⟨g, 0, none⟩) 3 [u, v, t] := by
 refine ⟨fun x hx => ?_, Nat.le_refl _, by simp [maxLen], fun _ => ⟨g, 0, rfl, (Array.getElem?_eq_some_iff.1 h).1, fun i hi => ?_⟩⟩
 ·
  simp only [List.mem_cons, List.not_mem_nil, or_false] at hx
  rcases hx with rfl | rfl | rfl
  ·
   exact hu
  ·
   exact hv
  ·
   exact ht
 ·
  match i, hi with
  | 0, _ => refine ⟨?_, ?_, ?_, ?_, ?_⟩ <;> (rw [cell_of_row _ _ _ _ _ _ h]; rfl)
  | 1, _ => refine ⟨?_, ?_, ?_, ?_, ?_⟩ <;> (rw [cell_of_row _ _ _ _ _ _ h]; rfl)
  | 2, _ => refine ⟨?_, ?_, ?_, ?_, ?_⟩ <;> (rw [cell_of_row _ _ _ _ _ _ h]; rfl)
theorem cs_lit1 {w : World} {g : Nat} (u : Cv) (h : w.heap[g]? = some (.cells #[.bool u.sx, .slice u.ax u.xs.length u.cx, .bool u.sy, .slice u.ay u.ys.length u.cy, .int .u8 u.st] 47)) (hu : CvU w u) : Cs w (some ⟨g, 0, none⟩) 1 [u] := by
 refine ⟨fun x hx => ?_, Nat.le_refl _, by simp [maxLen], fun _ => ⟨g, 0, rfl, (Array.getElem?_eq_some_iff.1 h).1, fun i hi => ?_⟩⟩
 ·
  rw [List.mem_singleton.1 hx]
  exact hu
 ·
  match i, hi with
  | 0, _ => refine ⟨?_, ?_, ?_, ?_, ?_⟩ <;> (rw [cell_of_row _ _ _ _ _ _ h]; rfl)
theorem canon_rightC {s : Bool} {xs : List Nat} (h : CanonI s xs) : rightI s xs = true := by
 unfold rightI
 rw [Bool.and_eq_true]
 constructor
 ·
  have h1 := h.1
  unfold Canon at h1
  rw [List.getLast?_eq_getElem?] at h1
  unfold rightB
  rw [Bool.or_eq_true]
  rcases Nat.eq_zero_or_pos xs.length with h0 | h0
  ·
   exact .inl (by rw [h0]; rfl)
  ·
   right
   rw [bne_iff_ne]
   rw [List.getElem?_eq_getElem (by omega)] at h1 ⊢
   exact fun e => h1 (by rw [← e]; rfl)
 ·
  cases s
  ·
   rfl
  ·
   have := h.2 rfl
   simp
   exact List.length_pos_iff.2 this
theorem ok_all {l : List Cv} (h : ∀ v ∈ l, CvR v) : l.all okC = true := List.all_eq_true.2 fun v hv => by
 unfold okC
 rw [canon_rightC (h v hv).1, canon_rightC (h v hv).2.1]
 rfl
theorem cof_known (A : Option Addr) (c n : Nat) (l : List Cv) (q : List Nd) (qn : Nat) (w : World) (h : Cs w A c l) (hn : l.length = n) (hn9 : n ≤ 600) (hR : ∀ v ∈ l, CvR v) (h9 : leastF (lastF (l.map Cv.cl)) ≤ 1329) (hq : ∀ out, QuadOf (lastF (l.map Cv.cl)) out → out = q) (hqn : q.length = qn) :
  Calls Tryz.prog 9 #[.slice A n c] w fun e w' => ∃ A' c', e = .returned (.tuple #[.agg #[.slice A' qn c'], .int .i64 0]) ∧ Ns w' A' c' q ∧ (A' = none → c' = 0) ∧ Below w.heap.size w w' := by
 refine (cof_any A c n l w h hn hn9 fun v hv => ⟨(hR v hv).2.2.1, (hR v hv).2.2.2⟩).mono ?_
 rintro e w' ⟨v', out, er, rfl, ho, hb, hof⟩
 obtain ⟨rfl, hqq⟩ := hof.quad (ok_all hR) (fun v hv => (h.1 v hv).2.2) h9
 obtain rfl := hq out hqq
 subst hqn
 obtain ⟨A', c', hv', ns, hA', -⟩ := ho.shape
 exact ⟨A', c', by rw [hv'], ns, hA', hb⟩
end Go.Proofs.YtmfncapgikobkaaGreat

namespace Go.Proofs.YtmfncapgikobkaaGreat
set_option maxRecDepth 100000
set_option linter.unusedVariables false
set_option linter.unusedSimpArgs false
open Go.RowKit Nds Num
theorem of_two {A : Option Addr} {c : Nat} {u v : Cv} {w : World} (h : Cs w A c [u, v]) (m1 : u.cl = ⟨0, 0, (2 : Nat)⟩) (m2 : v.cl = ⟨-1, -1, (1 : Nat)⟩) (r1 : CvR u) (r2 : CvR v) :
  Calls Tryz.prog 9 #[.slice A 2 c] w fun e w' => ∃ A' c', e = .returned (.tuple #[.agg #[.slice A' 1 c'], .int .i64 0]) ∧ Ns w' A' c' two7 ∧ (A' = none → c' = 0) ∧ Below w.heap.size w w' := by
 have hm : [u, v].map Cv.cl = [⟨0, 0, 2⟩, ⟨-1, -1, 1⟩] := by
  rw [List.map_cons, List.map_cons, m1, m2]
  rfl
 refine cof_known A c 2 [u, v] two7 1 w h rfl (by omega) (fun x hx => ?_) (by rw [hm, two7_least]; omega) (fun out ho => two7_quad (by rw [hm] at ho; exact ho)) rfl
 simp only [List.mem_cons, List.not_mem_nil, or_false] at hx
 rcases hx with rfl | rfl
 ·
  exact r1
 ·
  exact r2
theorem of_far {A : Option Addr} {c : Nat} {u v t : Cv} {w : World} (h : Cs w A c [u, v, t]) (m1 : u.cl = ⟨0, 0, (2 : Nat)⟩) (m2 : v.cl = ⟨5, -3, (7 : Nat)⟩) (m3 : t.cl = ⟨0, 0, (0 : Nat)⟩) (r1 : CvR u) (r2 : CvR v) (r3 : CvR t) :
  Calls Tryz.prog 9 #[.slice A 3 c] w fun e w' => ∃ A' c', e = .returned (.tuple #[.agg #[.slice A' 4 c'], .int .i64 0]) ∧ Ns w' A' c' far7 ∧ (A' = none → c' = 0) ∧ Below w.heap.size w w' := by
 have hm : [u, v, t].map Cv.cl = [⟨0, 0, 2⟩, ⟨5, -3, 7⟩, ⟨0, 0, 0⟩] := by
  rw [List.map_cons, List.map_cons, List.map_cons, m1, m2, m3]
  rfl
 refine cof_known A c 3 [u, v, t] far7 4 w h rfl (by omega) (fun x hx => ?_) (by rw [hm, far7_least]; omega) (fun out ho => far7_quad (by rw [hm] at ho; exact ho)) rfl
 simp only [List.mem_cons, List.not_mem_nil, or_false] at hx
 rcases hx with rfl | rfl | rfl
 ·
  exact r1
 ·
  exact r2
 ·
  exact r3
theorem same_cl {w w' : World} : ∀ {l m : List Cv}, (∀ v ∈ l, CvU w v ∧ CvR v) → (∀ v ∈ m, CvU w' v ∧ CvR v) → l.map Cv.cl = m.map Cv.cl → l.map Cv.kk = m.map Cv.kk
 | [], [], _, _, _ => rfl
 | [], _ :: _, _, _, h => by cases h
 | _ :: _, [], _, _, h => by cases h
 | u :: l, v :: m, h1, h2, h => by
  rw [List.map_cons, List.map_cons] at h ⊢
  obtain ⟨e1, e2⟩ := List.cons.inj h
  obtain ⟨hu, ru⟩ := h1 u (by simp)
  obtain ⟨hv, rv⟩ := h2 v (by simp)
  rw [same_cl (fun x hx => h1 x (by simp [hx])) (fun x hx => h2 x (by simp [hx])) e2]
  have ex := congrArg Cl.x e1
  have ey := congrArg Cl.y e1
  have es := congrArg Cl.s e1
  obtain ⟨a1, a2⟩ := uniqI hu.1.1 hv.1.1 ru.1 rv.1 ex
  obtain ⟨b1, b2⟩ := uniqI hu.2.1.1 hv.2.1.1 ru.2.1 rv.2.1 ey
  have c1 : u.st = v.st := by
   have : ((u.st : Nat) : Int) = ((v.st : Nat) : Int) := es
   omega
  have : u.kk = v.kk := by
   unfold Cv.kk
   rw [a1, a2, b1, b2, c1]
  rw [this]
theorem two_near : -p2 1330 ≤ 2 ∧ 2 ≤ p2 1330 := by
 have h := p2_mono (show 1 ≤ 1330 by omega)
 have h1 : p2 1 = 2 := by decide
 omega
def bad7 : Cv := ⟨true, none, 0, [], false, none, 0, [], 0⟩
theorem bad7_ok : [bad7].all okC = false := by kernel_rfl
theorem of_bad {A : Option Addr} {c : Nat} {w : World} (h : Cs w A c [bad7]) :
  Calls Tryz.prog 9 #[.slice A 1 c] w fun e w' => ∃ A' c', e = .returned (.tuple #[.agg #[.slice A' 0 c'], .int .i64 1]) ∧ Below w.heap.size w w' := by
 refine (cof_any A c 1 [bad7] w h rfl (by omega) fun v hv => by rw [List.mem_singleton.1 hv]; exact ⟨Nat.zero_le _, Nat.zero_le _⟩).mono ?_
 rintro e w' ⟨v', out, er, rfl, ho, hb, hof⟩
 obtain ⟨rfl, rfl⟩ := hof.1 bad7_ok
 obtain ⟨A', c', hv', -, -, -⟩ := ho.shape
 exact ⟨A', c', by rw [hv']; rfl, hb⟩
set_option maxRecDepth 100000 in
set_option maxHeartbeats 6400000 in
theorem alive7_any (w : World) : Calls Tryz.prog 7 #[] w fun e w' => e = .returned (.bool true) ∧ Below w.heap.size w w' := by
 have q0 : True := trivial
 go_enter Tryz.func7, Tryz.ntmps7
 go_wp2_with (first
  | (have _t := q0; go_at_call 24; clear _t; go_loud (refine (cell_any 0 0 2 _ (by omega) (by omega) (by omega) (by omega) (by omega)).mono ?_; rintro e w1 ⟨u1, rfl, m1, v1, r1, st1, b1⟩; have p1 := v1.1.cap; have p2 := v1.2.1.cap; have U1 := Lib.hid v1; have R1 := Lib.hid r1; have M1 := Lib.hid m1; have S1 := Lib.hid st1; have B1 := Lib.hid b1; clear v1 r1 m1 st1 b1; have q1 := q0; clear q0))
  | (have _t := q1; go_at_call 24; clear _t; go_loud (refine (cell_any (-1) (-1) 1 _ (by omega) (by omega) (by omega) (by omega) (by omega)).mono ?_; rintro e w2 ⟨u2, rfl, m2, v2, r2, st2, b2⟩; have p3 := v2.1.cap; have p4 := v2.2.1.cap; have U2 := Lib.hid v2; have R2 := Lib.hid r2; have M2 := Lib.hid m2; have S2 := Lib.hid st2; have B2 := Lib.hid (B1.out.trans (b2.mono B1.out.size)); have U12 := Lib.hid (U1.out.below b2); clear v2 r2 m2 st2 b2; have q2 := q1; clear q1))
  | (have _t := q2; go_at_call 9; clear _t; go_loud (have hal := (Below.refl w2.heap.size w2).alloc (Nat.le_refl _) (.cells #[.bool u1.sx, .slice u1.ax u1.xs.length u1.cx, .bool u1.sy, .slice u1.ay u1.ys.length u1.cy, .int .u8 u1.st, .bool u2.sx, .slice u2.ax u2.xs.length u2.cx, .bool u2.sy, .slice u2.ay u2.ys.length u2.cy, .int .u8 u2.st] 47); refine (of_two (cs_lit2 u1 u2 (heap_alloc_new w2 _) (U12.out.below hal) (U2.out.below hal)) M1.out M2.out R1.out R2.out).mono ?_; rintro e w3 ⟨A3, c3, rfl, n3, -, b3⟩; have HS := Lib.hid (((Al.start w).step (B2.out.trans ((hal.trans (b3.mono hal.size)).mono B2.out.size))).addN n3 |>.addB (.slice A3 1 c3)); clear n3 b3 hal; have q3 := q2; clear q2))
  | (have _t := q3; go_at_call 24; clear _t; go_loud (refine (cell_any 0 0 2 _ (by omega) (by omega) (by omega) (by omega) (by omega)).mono ?_; rintro e w4 ⟨u4, rfl, m4, v4, r4, st4, b4⟩; have p4 := v4.1.cap; have p_4 := v4.2.1.cap; have U4 := Lib.hid v4; have R4 := Lib.hid r4; have M4 := Lib.hid m4; have HS := Lib.hid (HS.out.step b4); clear v4 r4 m4 st4 b4; have q4 := q3; clear q3))
  | (have _t := q4; go_at_call 24; clear _t; go_loud (refine (cell_any 5 (-3) 7 _ (by omega) (by omega) (by omega) (by omega) (by omega)).mono ?_; rintro e w5 ⟨u5, rfl, m5, v5, r5, st5, b5⟩; have p5 := v5.1.cap; have p_5 := v5.2.1.cap; have U5 := Lib.hid v5; have R5 := Lib.hid r5; have M5 := Lib.hid m5; have HS := Lib.hid (HS.out.step b5); have U4 := Lib.hid (U4.out.below b5); clear v5 r5 m5 st5 b5; have q5 := q4; clear q4))
  | (have _t := q5; go_at_call 24; clear _t; go_loud (refine (cell_any 0 0 0 _ (by omega) (by omega) (by omega) (by omega) (by omega)).mono ?_; rintro e w6 ⟨u6, rfl, m6, v6, r6, st6, b6⟩; have p6 := v6.1.cap; have p_6 := v6.2.1.cap; have U6 := Lib.hid v6; have R6 := Lib.hid r6; have M6 := Lib.hid m6; have HS := Lib.hid (HS.out.step b6); have U4 := Lib.hid (U4.out.below b6); have U5 := Lib.hid (U5.out.below b6); clear v6 r6 m6 st6 b6; have q6 := q5; clear q5))
  | (have _t := q6; go_at_call 9; clear _t; go_loud (have hal := (Below.refl w6.heap.size w6).alloc (Nat.le_refl _) (.cells #[.bool u4.sx, .slice u4.ax u4.xs.length u4.cx, .bool u4.sy, .slice u4.ay u4.ys.length u4.cy, .int .u8 u4.st, .bool u5.sx, .slice u5.ax u5.xs.length u5.cx, .bool u5.sy, .slice u5.ay u5.ys.length u5.cy, .int .u8 u5.st, .bool u6.sx, .slice u6.ax u6.xs.length u6.cx, .bool u6.sy, .slice u6.ay u6.ys.length u6.cy, .int .u8 u6.st] 47); refine (of_far (cs_lit3 u4 u5 u6 (heap_alloc_new w6 _) (U4.out.below hal) (U5.out.below hal) (U6.out.below hal)) M4.out M5.out M6.out R4.out R5.out R6.out).mono ?_; rintro e w7 ⟨A7, c7, rfl, n7, -, b7⟩; have HS := Lib.hid (((HS.out.step (hal.trans (b7.mono hal.size))).addN n7).addB (.slice A7 4 c7)); clear n7 b7 hal; have q7 := q6; clear q6))
  | (have _t := q7; go_at_call 9; clear _t; go_loud (refine (of_bad (cs_lit1 bad7 (by have h := heap_alloc_new (w7.alloc (.cells #[.slice A7 4 c7] 27)) (.cells #[.bool true, .slice none 0 0, .bool false, .slice none 0 0, .int .u8 0] 47); rw [show (w7.alloc (.cells #[.slice A7 4 c7] 27)).heap.size = w7.heap.size + 1 by simp] at h; exact h) ⟨Us.nil _, Us.nil _, Nat.zero_le _⟩)).mono ?_; rintro e w8 ⟨A8, c8, rfl, b8⟩; have HS := Lib.hid ((((HS.out.alloc _).step b8)).addB (.slice A8 0 c8)); have k1 := HS.out.getB (g := w7.heap.size) (v := .slice A7 4 c7) (by simp); clear b8; have q8 := q7; clear q7))
  | (have _t := q8; go_at_call 15; clear _t; go_loud (refine (list_any A7 c7 4 far7 1 _ (HS.out.getN (A := A7) (c := c7) (by simp)) rfl far7_loose (by omega) (by omega) (by omega)).mono ?_; rintro e w9 ⟨b9, hm9⟩; obtain ⟨A9, c9, L9, rfl, cs9, cr9, ml9⟩ := (hm9.resolve_left (fun e => by have h1 := e.1; rw [far7_count] at h1; omega)).2; have HS := Lib.hid (HS.out.step b9); rw [far7_list] at ml9; have CS9 := Lib.hid cs9; have CR9 := Lib.hid cr9; have ML9 := Lib.hid ml9; have k2 := HS.out.getB (g := w3.heap.size) (v := .slice A3 1 c3) (by simp); clear b9 hm9 cs9 cr9 ml9 k1; have q9 := q8; clear q8))
  | (have _t := q9; go_at_call 15; clear _t; go_loud (refine (list_any A3 c3 1 two7 1 _ (HS.out.getN (A := A3) (c := c3) (by simp)) rfl two7_loose (by omega) (by omega) (by omega)).mono ?_; rintro e w10 ⟨b10, hm10⟩; obtain ⟨-, rfl⟩ := hm10.resolve_right (fun e => by have h1 := e.1; rw [two7_count] at h1; omega); have HS := Lib.hid (HS.out.step b10); have CS9 := Lib.hid (CS9.out.below b10); have k3 := HS.out.getB (g := w3.heap.size) (v := .slice A3 1 c3) (by simp); clear b10 hm10 k2; have q10 := q9; clear q9))
  | (have _t := q10; go_at_call 11; clear _t; go_loud (refine (rsame_any _ _ _ _ 1 1 two7 [⟨1, 1, 0, 0, 2⟩] _ ((HS.out.alloc _).getN (A := A3) (c := c3) (by simp)) (ns_lit1 w10 w10.heap.size ⟨1, 1, 0, 0, 2⟩ (by refine ⟨⟨?_, ?_⟩, ⟨?_, ?_⟩, ⟨?_, ?_⟩, ⟨?_, ?_⟩, ⟨?_, ?_⟩⟩ <;> simp) rfl) rfl rfl).mono ?_; rintro e w11 ⟨rfl, b11⟩; rw [show decide (two7 = [⟨1, 1, 0, 0, 2⟩]) = true from by kernel_rfl]; have CS9 := Lib.hid ((CS9.out.below ((Below.refl _ _).alloc (Nat.le_refl _) _)).below b11); have HS := Lib.hid ((HS.out.alloc _).step b11); clear b11 k3; have q11 := q10; clear q10))
  | (have _t := q11; go_at_call 24; clear _t; go_loud (refine (cell_any 5 (-3) 7 _ (by omega) (by omega) (by omega) (by omega) (by omega)).mono ?_; rintro e w12 ⟨u7, rfl, m7, v7, r7, st7, b12⟩; have p7 := v7.1.cap; have p_7 := v7.2.1.cap; have U7 := Lib.hid v7; have R7 := Lib.hid r7; have M7 := Lib.hid m7; have HS := Lib.hid (HS.out.step b12); have CS9 := Lib.hid (CS9.out.below b12); clear v7 r7 m7 st7 b12; have q12 := q11; clear q11))
  | (have _t := q12; go_at_call 12; clear _t; go_loud (have hal := (Below.refl w12.heap.size w12).alloc (Nat.le_refl _) (.cells #[.bool u7.sx, .slice u7.ax u7.xs.length u7.cx, .bool u7.sy, .slice u7.ay u7.ys.length u7.cy, .int .u8 u7.st] 47); refine (rcsame_any A9 (some ⟨w12.heap.size, 0, none⟩) c9 1 L9.length 1 L9 [u7] _ (CS9.out.below hal) (cs_lit1 u7 (heap_alloc_new w12 _) (U7.out.below hal)) rfl rfl (fun v hv => ⟨Nat.le_trans (CR9.out v hv).2.2.1 (by omega), Nat.le_trans (CR9.out v hv).2.2.2 (by omega)⟩)).mono ?_; rintro e w13 ⟨rfl, b13⟩; rw [show sameCs L9 [u7] = true from decide_eq_true (same_cl (fun v hv => ⟨CS9.out.1 v hv, CR9.out v hv⟩) (fun v hv => by rw [List.mem_singleton.1 hv]; exact ⟨U7.out, R7.out⟩) (by rw [ML9.out, List.map_singleton, M7.out]; rfl))]; have HS := Lib.hid ((HS.out.alloc _).step b13); have k4 := HS.out.getB (g := w3.heap.size) (v := .slice A3 1 c3) (by simp); clear b13 hal; have q13 := q12; clear q12))
  | (have _t := q13; go_at_call 18; clear _t; go_loud (refine (count_any A3 c3 1 two7 _ (HS.out.getN (A := A3) (c := c3) (by simp)) rfl two7_loose (by omega)).mono ?_; rintro e w14 ⟨A14, c14, s14, r14, rfl, u14, k14, v14, b14⟩; have cp14 := u14.cap; have U14 := Lib.hid u14; have K14 := Lib.hid k14; have V14 := Lib.hid (show ival s14 r14 = 2 by rw [v14]; exact congrArg Int.ofNat two7_count); have HS := Lib.hid (HS.out.step b14); clear u14 k14 v14 b14 k4; have q14 := q13; clear q13))
  | (have _t := q14; go_at_call 22; clear _t; go_loud (refine (rbof_any 2 _ (by omega) (by omega)).mono ?_; rintro e w15 ⟨A15, c15, s15, r15, rfl, u15, k15, v15, b15⟩; have cp15 := u15.cap; have U15 := Lib.hid u15; have K15 := Lib.hid k15; have V15 := Lib.hid v15; have U14 := Lib.hid (U14.out.below b15); have HS := Lib.hid (HS.out.step b15); clear u15 k15 v15 b15; have q15 := q14; clear q14))
  | (have _t := q15; go_at_call 17; clear _t; go_loud (refine (rbsame_any s14 s15 _ _ _ _ r14 r15 _ U14.out U15.out (by have := len_near K14.out V14.out two_near.1 two_near.2; omega)).mono ?_; rintro e w16 ⟨rfl, b16⟩; rw [show decide (s14 = s15 ∧ r14 = r15) = true from decide_eq_true (uniqI U14.out.1 U15.out.1 K14.out K15.out (V14.out.trans V15.out.symm))]; have HS := Lib.hid (HS.out.step b16); have k5 := HS.out.getB (g := w7.heap.size) (v := .slice A7 4 c7) (by simp); clear b16; have q16 := q15; clear q15))
  | (have _t := q16; go_at_call 14; clear _t; go_loud (refine (rlevel_any A7 c7 4 far7 _ (HS.out.getN (A := A7) (c := c7) (by simp)) rfl).mono ?_; rintro e w17 ⟨rfl, b17⟩; rw [show levelZ far7 = 4 from by kernel_rfl]; have HS := Lib.hid (HS.out.step b17); clear b17 k5; have q17 := q16; clear q16)))
 go_ret
 exact ⟨rfl, HS.out.sn.1⟩
end Go.Proofs.YtmfncapgikobkaaGreat

namespace Go.Proofs.YtmfncapgikobkaaGreat
set_option maxRecDepth 100000
set_option linter.unusedVariables false
set_option linter.unusedSimpArgs false
open Go.RowKit Nds Num
set_option maxRecDepth 100000 in
set_option maxHeartbeats 3200000 in
theorem clist_great (A : Option Addr) (c n : Nat) (k most : Int) (w : World) (h : 12 < n ∨ (n ≤ 12 ∧ 2000 < most)) (hn : n ≤ 9223372036854775807) :
  Calls Tryz.prog 4 #[.slice A n c, .int .i64 k, .int .i64 most] w fun e w' => e = .returned (.bool true) ∧ Below w.heap.size w w' := by
 rcases h with h | ⟨h2, h⟩
 all_goals
  go_enter Tryz.func4, Tryz.ntmps4
  go_wp2_with (go_at_call 7; refine (alive7_any _).mono ?_; rintro e w1 ⟨rfl, b1⟩; have B1 := Lib.hid b1; clear b1)
  go_ret
  exact ⟨rfl, B1.out⟩
set_option maxRecDepth 100000 in
set_option maxHeartbeats 3200000 in
theorem clist_bad (A : Option Addr) (c n : Nat) (k most : Int) (l : List Nd) (w : World) (h : Ns w A c l) (hn : l.length = n) (hn6 : n ≤ 12) (hm : most ≤ 2000) (hA : A = none → c = 0) (hno : okB l k = false) :
  Calls Tryz.prog 4 #[.slice A n c, .int .i64 k, .int .i64 most] w fun e w' => e = .returned (.bool true) ∧ Below w.heap.size w w' := by
 have HS := Lib.hid ((Al.start w).addN h)
 have HN := Lib.hid hn
 have HA := Lib.hid hA
 have HQ := Lib.hid (ofQ_no hno).1
 have HER := Lib.hid (ofQ_no hno).2
 have HQN := Lib.hid (show ([] : List Nd).length = 0 from rfl)
 have q0 : True := trivial
 clear h hn hA hno
 go_enter Tryz.func4, Tryz.ntmps4
 go_wp2_with (first
  | (have _t := q0; go_at_call 7; clear _t; go_loud (refine (alive7_any _).mono ?_; rintro e w1 ⟨rfl, b1⟩; have HS := Lib.hid (HS.out.step b1); clear b1; have q1 := q0; clear q0))
  | (have _t := q1; go_at_call 13; clear _t; go_loud (refine (rof_at A c n l k [] 0 1 _ (HS.out.getN (A := A) (c := c) (l := l) (by simp)) HN.out (by omega) HA.out HQ.out HQN.out HER.out).mono ?_; rintro e w2 ⟨A2, c2, rfl, n2, -, b2⟩; have HS := Lib.hid (((HS.out.step b2).addN n2).addB (.slice A2 0 c2)); clear n2 b2; have g2 := HS.out.getB (g := w2.heap.size) (v := .slice A2 0 c2) (by simp); have q2 := q1; clear q1)))
 go_ret
 exact ⟨rfl, HS.out.sn.1⟩
set_option maxRecDepth 100000 in
set_option maxHeartbeats 3200000 in
theorem clist_deep (A : Option Addr) (c n : Nat) (k most : Int) (l : List Nd) (w : World) (h : Ns w A c l) (hn : l.length = n) (hn6 : n ≤ 12) (hm : most ≤ 2000) (hA : A = none → c = 0) (hok : okB l k = true) (hlv : 40 < levelZ (OfL l k.toNat)) :
  Calls Tryz.prog 4 #[.slice A n c, .int .i64 k, .int .i64 most] w fun e w' => e = .returned (.bool true) ∧ Below w.heap.size w w' := by
 have HS := Lib.hid ((Al.start w).addN h)
 have HN := Lib.hid hn
 have HA := Lib.hid hA
 have hj : ∃ j : Nat, k = (j : Int) ∧ looseB l = true ∧ j ≤ l.length := by
  unfold okB at hok
  rw [Bool.and_eq_true, decide_eq_true_iff] at hok
  exact ⟨k.toNat, by omega, hok.1, by omega⟩
 obtain ⟨j, rfl, hl, hj⟩ := hj
 obtain ⟨hq1, he1⟩ := ofQ_yes hl (n := j) hj
 have hqq := ofL_quad hl hj
 have hlen := ofL_len hl hj
 obtain ⟨k, hk⟩ : ∃ k, k = (j : Int) := ⟨_, rfl⟩
 obtain ⟨q, hq⟩ : ∃ q, q = OfL l j := ⟨_, rfl⟩
 rw [Int.toNat_natCast] at hlv
 rw [← hq] at hq1 hqq hlen hlv
 rw [← hk] at hq1 he1 ⊢
 obtain ⟨qn, hqn⟩ : ∃ qn, q.length = qn := ⟨_, rfl⟩
 have hqn9 : qn ≤ 1340 := by omega
 obtain ⟨lv, hlvv⟩ : ∃ lv, lv = levelZ q := ⟨_, rfl⟩
 rw [← hlvv] at hlv
 have HQ := Lib.hid hq1
 have HER := Lib.hid he1
 have HQN := Lib.hid hqn
 have HLV := Lib.hid hlvv
 have HQL := Lib.hid (quad_loose hqq)
 have q0 : True := trivial
 clear h hn hA hok hq1 he1 hqq hlen hqn hlvv hq hl hj hk
 go_enter Tryz.func4, Tryz.ntmps4
 go_wp2_with (first
  | (have _t := q0; go_at_call 7; clear _t; go_loud (refine (alive7_any _).mono ?_; rintro e w1 ⟨rfl, b1⟩; have HS := Lib.hid (HS.out.step b1); clear b1; have q1 := q0; clear q0))
  | (have _t := q1; go_at_call 13; clear _t; go_loud (refine (rof_at A c n l k q qn 0 _ (HS.out.getN (A := A) (c := c) (l := l) (by simp)) HN.out (by omega) HA.out HQ.out HQN.out HER.out).mono ?_; rintro e w2 ⟨A2, c2, rfl, n2, -, b2⟩; have HS := Lib.hid (((HS.out.step b2).addN n2).addB (.slice A2 qn c2)); clear n2 b2; have g2 := HS.out.getB (g := w2.heap.size) (v := .slice A2 qn c2) (by simp); have q2 := q1; clear q1))
  | (have _t := q2; go_at_call 14; clear _t; go_loud (refine (rlevel_any A2 c2 qn q _ (HS.out.getN (A := A2) (c := c2) (l := q) (by simp)) HQN.out).mono ?_; rintro e w3 ⟨rfl, b3⟩; rw [← HLV.out]; have HS := Lib.hid (HS.out.step b3); clear b3 g2; have g3 := HS.out.getB (g := w2.heap.size) (v := .slice A2 qn c2) (by simp); have q3 := q2; clear q2)))
 go_ret
 exact ⟨rfl, HS.out.sn.1⟩
set_option maxRecDepth 100000 in
set_option maxHeartbeats 6400000 in
theorem clist_many (A : Option Addr) (c n : Nat) (k most : Int) (l : List Nd) (w : World) (h : Ns w A c l) (hn : l.length = n) (hn6 : n ≤ 12) (hm0 : -9223372036854775808 ≤ most) (hm : most ≤ 2000) (hA : A = none → c = 0) (hok : okB l k = true) (hlv : levelZ (OfL l k.toNat) ≤ 40) (hc : most < (countT (den (OfL l k.toNat) (OfL l k.toNat).length) : Int)) :
  Calls Tryz.prog 4 #[.slice A n c, .int .i64 k, .int .i64 most] w fun e w' => e = .returned (.bool true) ∧ Below w.heap.size w w' := by
 have HS := Lib.hid ((Al.start w).addN h)
 have HN := Lib.hid hn
 have HA := Lib.hid hA
 have hj : ∃ j : Nat, k = (j : Int) ∧ looseB l = true ∧ j ≤ l.length := by
  unfold okB at hok
  rw [Bool.and_eq_true, decide_eq_true_iff] at hok
  exact ⟨k.toNat, by omega, hok.1, by omega⟩
 obtain ⟨j, rfl, hl, hj⟩ := hj
 obtain ⟨hq1, he1⟩ := ofQ_yes hl (n := j) hj
 have hqq := ofL_quad hl hj
 have hlen := ofL_len hl hj
 obtain ⟨k, hk⟩ : ∃ k, k = (j : Int) := ⟨_, rfl⟩
 obtain ⟨q, hq⟩ : ∃ q, q = OfL l j := ⟨_, rfl⟩
 rw [Int.toNat_natCast] at hlv hc
 rw [← hq] at hq1 hqq hlen hlv hc
 rw [← hk] at hq1 he1 ⊢
 obtain ⟨qn, hqn⟩ : ∃ qn, q.length = qn := ⟨_, rfl⟩
 have hqn9 : qn ≤ 1340 := by omega
 obtain ⟨lv, hlvv⟩ : ∃ lv, lv = levelZ q := ⟨_, rfl⟩
 rw [← hlvv] at hlv
 have HQ := Lib.hid hq1
 have HER := Lib.hid he1
 have HQN := Lib.hid hqn
 have HLV := Lib.hid hlvv
 have HQL := Lib.hid (quad_loose hqq)
 rw [hqn] at hc
 have HC := Lib.hid hc
 have HCS := Lib.hid (count_small HQL.out (i := qn) (by omega) (M := 1329) rfl)
 have q0 : True := trivial
 clear h hn hA hok hq1 he1 hqq hlen hqn hlvv hq hl hj hk hc
 go_enter Tryz.func4, Tryz.ntmps4
 go_wp2_with (first
  | (have _t := q0; go_at_call 7; clear _t; go_loud (refine (alive7_any _).mono ?_; rintro e w1 ⟨rfl, b1⟩; have HS := Lib.hid (HS.out.step b1); clear b1; have q1 := q0; clear q0))
  | (have _t := q1; go_at_call 13; clear _t; go_loud (refine (rof_at A c n l k q qn 0 _ (HS.out.getN (A := A) (c := c) (l := l) (by simp)) HN.out (by omega) HA.out HQ.out HQN.out HER.out).mono ?_; rintro e w2 ⟨A2, c2, rfl, n2, -, b2⟩; have HS := Lib.hid (((HS.out.step b2).addN n2).addB (.slice A2 qn c2)); clear n2 b2; have g2 := HS.out.getB (g := w2.heap.size) (v := .slice A2 qn c2) (by simp); have q2 := q1; clear q1))
  | (have _t := q2; go_at_call 14; clear _t; go_loud (refine (rlevel_any A2 c2 qn q _ (HS.out.getN (A := A2) (c := c2) (l := q) (by simp)) HQN.out).mono ?_; rintro e w3 ⟨rfl, b3⟩; rw [← HLV.out]; have HS := Lib.hid (HS.out.step b3); clear b3 g2; have g3 := HS.out.getB (g := w2.heap.size) (v := .slice A2 qn c2) (by simp); have q3 := q2; clear q2))
  | (have _t := q3; go_at_call 15; clear _t; go_loud (refine (list_any A2 c2 qn q most _ (HS.out.getN (A := A2) (c := c2) (l := q) (by simp)) HQN.out HQL.out (by omega) (by omega) (by omega)).mono ?_; rintro e w4 ⟨b4, hm4⟩; obtain ⟨-, rfl⟩ := hm4.resolve_right (fun e => by have h1 := e.1; have h2 := HC.out; rw [HQN.out] at h1; omega); have HS := Lib.hid (HS.out.step b4); clear b4 hm4 g3; have g4 := HS.out.getB (g := w2.heap.size) (v := .slice A2 qn c2) (by simp); have q4 := q3; clear q3))
  | (have _t := q4; go_at_call 16; clear _t; go_loud (refine (rclist_any A2 c2 qn q most _ (HS.out.getN (A := A2) (c := c2) (l := q) (by simp)) HQN.out HQL.out (by omega) (by omega) (by omega)).mono ?_; rintro e w5 ⟨b5, hm5⟩; obtain ⟨-, rfl⟩ := hm5.resolve_right (fun e => by have h1 := e.1; have h2 := HC.out; rw [HQN.out] at h1; omega); have HS := Lib.hid (HS.out.step b5); clear b5 hm5 g4; have g5 := HS.out.getB (g := w2.heap.size) (v := .slice A2 qn c2) (by simp); have q5 := q4; clear q4)))
 have HS := Lib.hid (HS.out.step (Below.drew (Below.refl _ _)))
 clear g5
 have gx := HS.out.getB (g := w2.heap.size) (v := .slice A2 qn c2) (by simp)
 go_region_held3 (fun w' => w'.cell? ⟨w2.heap.size, 0, none⟩ = some (.slice A2 qn c2))
  (first | go_keep | exact HS.out.getB (g := w2.heap.size) (v := .slice A2 qn c2) (by simp))
  (first
  | (have _t := q5; go_at_call 12; clear _t; go_loud (refine (rcsame_any none none 0 0 0 0 [] [] _ (cs_none _ none (by simp [maxLen])) (cs_none _ none (by simp [maxLen])) rfl rfl (fun v hv => by cases hv)).mono ?_; rintro e w6 ⟨rfl, b6⟩; rw [show sameCs [] [] = true from rfl]; have HS := Lib.hid (HS.out.step b6); clear b6; have q6 := q5; clear q5))
  | (have _t := q6; go_at_call 18; clear _t; go_loud (refine (count_any A2 c2 qn q _ (HS.out.getN (A := A2) (c := c2) (l := q) (by simp)) HQN.out HQL.out (by omega)).mono ?_; rintro e w7 ⟨A7, c7, s7, r7, rfl, u7, k7, v7, b7⟩; have cp7 := u7.cap; have U7 := Lib.hid u7; have K7 := Lib.hid k7; have V7 := Lib.hid v7; have HS := Lib.hid (HS.out.step b7); clear u7 k7 v7 b7; have q7 := q6; clear q6))
  | (have _t := q7; go_at_call 19; clear _t; go_loud (refine (rcount_any A2 c2 qn q _ (HS.out.getN (A := A2) (c := c2) (l := q) (by simp)) HQN.out HQL.out (by omega)).mono ?_; rintro e w8 ⟨A8, c8, s8, r8, rfl, u8, k8, v8, b8⟩; have cp8 := u8.cap; have U8 := Lib.hid u8; have K8 := Lib.hid k8; have V8 := Lib.hid v8; have U7 := Lib.hid (U7.out.below b8); have HS := Lib.hid (HS.out.step b8); clear u8 k8 v8 b8; have q8 := q7; clear q7))
  | (have _t := q8; go_at_call 17; clear _t; go_loud (refine (rbsame_any s7 s8 _ _ _ _ r7 r8 _ U7.out U8.out (by have := count_len K7.out V7.out rfl HCS.out; omega)).mono ?_; rintro e w9 ⟨rfl, b9⟩; rw [show decide (s7 = s8 ∧ r7 = r8) = true from decide_eq_true (uniqI U7.out.1 U8.out.1 K7.out K8.out (V7.out.trans V8.out.symm))]; have HS := Lib.hid (HS.out.step b9); clear b9; have q9 := q8; clear q8)))
 all_goals
  go_wp2
  go_ret
  exact ⟨rfl, HS.out.sn.1⟩
set_option maxRecDepth 100000 in
set_option maxHeartbeats 6400000 in
theorem clist_some (A : Option Addr) (c n : Nat) (k most : Int) (l : List Nd) (w : World) (h : Ns w A c l) (hn : l.length = n) (hn6 : n ≤ 12) (hm0 : -9223372036854775808 ≤ most) (hm : most ≤ 2000) (hA : A = none → c = 0) (hok : okB l k = true) (hlv : levelZ (OfL l k.toNat) ≤ 40) (hc : (countT (den (OfL l k.toNat) (OfL l k.toNat).length) : Int) ≤ most) :
  Calls Tryz.prog 4 #[.slice A n c, .int .i64 k, .int .i64 most] w fun e w' => e = .returned (.bool true) ∧ Below w.heap.size w w' := by
 have HS := Lib.hid ((Al.start w).addN h)
 have HN := Lib.hid hn
 have HA := Lib.hid hA
 have hj : ∃ j : Nat, k = (j : Int) ∧ looseB l = true ∧ j ≤ l.length := by
  unfold okB at hok
  rw [Bool.and_eq_true, decide_eq_true_iff] at hok
  exact ⟨k.toNat, by omega, hok.1, by omega⟩
 obtain ⟨j, rfl, hl, hj⟩ := hj
 obtain ⟨hq1, he1⟩ := ofQ_yes hl (n := j) hj
 have hqq := ofL_quad hl hj
 have hlen := ofL_len hl hj
 obtain ⟨k, hk⟩ : ∃ k, k = (j : Int) := ⟨_, rfl⟩
 obtain ⟨q, hq⟩ : ∃ q, q = OfL l j := ⟨_, rfl⟩
 rw [Int.toNat_natCast] at hlv hc
 rw [← hq] at hq1 hqq hlen hlv hc
 rw [← hk] at hq1 he1 ⊢
 obtain ⟨qn, hqn⟩ : ∃ qn, q.length = qn := ⟨_, rfl⟩
 have hqn9 : qn ≤ 1340 := by omega
 obtain ⟨lv, hlvv⟩ : ∃ lv, lv = levelZ q := ⟨_, rfl⟩
 rw [← hlvv] at hlv
 have HQ := Lib.hid hq1
 have HER := Lib.hid he1
 have HQN := Lib.hid hqn
 have HLV := Lib.hid hlvv
 have HQL := Lib.hid (quad_loose hqq)
 rw [hqn] at hc
 have HC := Lib.hid hc
 have HCS := Lib.hid (count_small HQL.out (i := qn) (by omega) (M := 1329) rfl)
 have q0 : True := trivial
 clear h hn hA hok hq1 he1 hqq hlen hqn hlvv hq hl hj hk hc
 go_enter Tryz.func4, Tryz.ntmps4
 go_wp2_with (first
  | (have _t := q0; go_at_call 7; clear _t; go_loud (refine (alive7_any _).mono ?_; rintro e w1 ⟨rfl, b1⟩; have HS := Lib.hid (HS.out.step b1); clear b1; have q1 := q0; clear q0))
  | (have _t := q1; go_at_call 13; clear _t; go_loud (refine (rof_at A c n l k q qn 0 _ (HS.out.getN (A := A) (c := c) (l := l) (by simp)) HN.out (by omega) HA.out HQ.out HQN.out HER.out).mono ?_; rintro e w2 ⟨A2, c2, rfl, n2, -, b2⟩; have HS := Lib.hid (((HS.out.step b2).addN n2).addB (.slice A2 qn c2)); clear n2 b2; have g2 := HS.out.getB (g := w2.heap.size) (v := .slice A2 qn c2) (by simp); have q2 := q1; clear q1))
  | (have _t := q2; go_at_call 14; clear _t; go_loud (refine (rlevel_any A2 c2 qn q _ (HS.out.getN (A := A2) (c := c2) (l := q) (by simp)) HQN.out).mono ?_; rintro e w3 ⟨rfl, b3⟩; rw [← HLV.out]; have HS := Lib.hid (HS.out.step b3); clear b3 g2; have g3 := HS.out.getB (g := w2.heap.size) (v := .slice A2 qn c2) (by simp); have q3 := q2; clear q2))
  | (have _t := q3; go_at_call 15; clear _t; go_loud (refine (list_any A2 c2 qn q most _ (HS.out.getN (A := A2) (c := c2) (l := q) (by simp)) HQN.out HQL.out (by omega) (by omega) (by omega)).mono ?_; rintro e w4 ⟨b4, hm4⟩; obtain ⟨A4, c4, L4, rfl, cs4, cr4, ml4⟩ := (hm4.resolve_left (fun e => by have h1 := e.1; have h2 := HC.out; rw [HQN.out] at h1; omega)).2; have cp4 := cs4.cap; have CS4 := Lib.hid cs4; have CR4 := Lib.hid cr4; have ML4 := Lib.hid ml4; have HS := Lib.hid (HS.out.step b4); clear b4 hm4 g3 cs4 cr4 ml4; have g4 := HS.out.getB (g := w2.heap.size) (v := .slice A2 qn c2) (by simp); have q4 := q3; clear q3))
  | (have _t := q4; go_at_call 16; clear _t; go_loud (refine (rclist_any A2 c2 qn q most _ (HS.out.getN (A := A2) (c := c2) (l := q) (by simp)) HQN.out HQL.out (by omega) (by omega) (by omega)).mono ?_; rintro e w5 ⟨b5, hm5⟩; obtain ⟨A5, c5, L5, rfl, cs5, cr5, ml5⟩ := (hm5.resolve_left (fun e => by have h1 := e.1; have h2 := HC.out; rw [HQN.out] at h1; omega)).2; have cp5 := cs5.cap; have CS5 := Lib.hid cs5; have CR5 := Lib.hid cr5; have ML5 := Lib.hid ml5; have CS4 := Lib.hid (CS4.out.below b5); have HS := Lib.hid (HS.out.step b5); clear b5 hm5 g4 cs5 cr5 ml5; have g5 := HS.out.getB (g := w2.heap.size) (v := .slice A2 qn c2) (by simp); have q5 := q4; clear q4)))
 have CS4 := Lib.hid (CS4.out.below (Below.drew (Below.refl _ _)))
 have CS5 := Lib.hid (CS5.out.below (Below.drew (Below.refl _ _)))
 have HS := Lib.hid (HS.out.step (Below.drew (Below.refl _ _)))
 clear g5
 have gx := HS.out.getB (g := w2.heap.size) (v := .slice A2 qn c2) (by simp)
 go_region_held3 (fun w' => w'.cell? ⟨w2.heap.size, 0, none⟩ = some (.slice A2 qn c2))
  (first | go_keep | exact HS.out.getB (g := w2.heap.size) (v := .slice A2 qn c2) (by simp))
  (first
  | (have _t := q5; go_at_call 12; clear _t; go_loud (refine (rcsame_any A4 A5 c4 c5 L4.length L5.length L4 L5 _ CS4.out CS5.out rfl rfl (fun v hv => ⟨Nat.le_trans (CR4.out v hv).2.2.1 (by omega), Nat.le_trans (CR4.out v hv).2.2.2 (by omega)⟩)).mono ?_; rintro e w6 ⟨rfl, b6⟩; rw [show sameCs L4 L5 = true from decide_eq_true (same_cl (fun v hv => ⟨CS4.out.1 v hv, CR4.out v hv⟩) (fun v hv => ⟨CS5.out.1 v hv, CR5.out v hv⟩) (ML4.out.trans ML5.out.symm))]; have HS := Lib.hid (HS.out.step b6); clear b6; have q6 := q5; clear q5))
  | (have _t := q6; go_at_call 18; clear _t; go_loud (refine (count_any A2 c2 qn q _ (HS.out.getN (A := A2) (c := c2) (l := q) (by simp)) HQN.out HQL.out (by omega)).mono ?_; rintro e w7 ⟨A7, c7, s7, r7, rfl, u7, k7, v7, b7⟩; have cp7 := u7.cap; have U7 := Lib.hid u7; have K7 := Lib.hid k7; have V7 := Lib.hid v7; have HS := Lib.hid (HS.out.step b7); clear u7 k7 v7 b7; have q7 := q6; clear q6))
  | (have _t := q7; go_at_call 19; clear _t; go_loud (refine (rcount_any A2 c2 qn q _ (HS.out.getN (A := A2) (c := c2) (l := q) (by simp)) HQN.out HQL.out (by omega)).mono ?_; rintro e w8 ⟨A8, c8, s8, r8, rfl, u8, k8, v8, b8⟩; have cp8 := u8.cap; have U8 := Lib.hid u8; have K8 := Lib.hid k8; have V8 := Lib.hid v8; have U7 := Lib.hid (U7.out.below b8); have HS := Lib.hid (HS.out.step b8); clear u8 k8 v8 b8; have q8 := q7; clear q7))
  | (have _t := q8; go_at_call 17; clear _t; go_loud (refine (rbsame_any s7 s8 _ _ _ _ r7 r8 _ U7.out U8.out (by have := count_len K7.out V7.out rfl HCS.out; omega)).mono ?_; rintro e w9 ⟨rfl, b9⟩; rw [show decide (s7 = s8 ∧ r7 = r8) = true from decide_eq_true (uniqI U7.out.1 U8.out.1 K7.out K8.out (V7.out.trans V8.out.symm))]; have HS := Lib.hid (HS.out.step b9); clear b9; have q9 := q8; clear q8)))
 all_goals
  go_wp2
  go_ret
  exact ⟨rfl, HS.out.sn.1⟩
theorem clist_law (A : Option Addr) (c : Nat) (k most : Int) (l : List Nd) (w : World) (h : Ns w A c l) (hA : A = none → c = 0) (hm0 : -9223372036854775808 ≤ most) :
  Calls Tryz.prog 4 #[.slice A l.length c, .int .i64 k, .int .i64 most] w fun e w' => e = .returned (.bool true) ∧ Below w.heap.size w w' := by
 have h1 := h.cap
 rcases (show 12 < l.length ∨ (l.length ≤ 12 ∧ 2000 < most) ∨ (l.length ≤ 12 ∧ most ≤ 2000) by omega) with h3 | h3 | h3
 ·
  exact clist_great A c _ k most w (.inl h3) (by omega)
 ·
  exact clist_great A c _ k most w (.inr h3) (by omega)
 ·
  cases hok : okB l k with
  | false => exact clist_bad A c _ k most l w h rfl h3.1 h3.2 hA hok
  | true =>
   by_cases hlv : 40 < levelZ (OfL l k.toNat)
   ·
    exact clist_deep A c _ k most l w h rfl h3.1 h3.2 hA hok hlv
   ·
    by_cases hc : most < (countT (den (OfL l k.toNat) (OfL l k.toNat).length) : Int)
    ·
     exact clist_many A c _ k most l w h rfl h3.1 hm0 h3.2 hA hok (by omega) hc
    ·
     exact clist_some A c _ k most l w h rfl h3.1 hm0 h3.2 hA hok (by omega) (by omega)
end Go.Proofs.YtmfncapgikobkaaGreat
