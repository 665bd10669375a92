/-
  cells, the law's own: cell; the fixed fact.
  cells: the fixed fact.
  cells: how many; a list turned around; plain.
  cells: CellsBack, the walk.
-/
import Derived.Test.YtmfncapgikobkaaGreatGClRm
import Derived.Test.YtmfncapgikobkaaGreatGClRa
import Derived.Test.YtmfncapgikobkaaGreatGBigH
import Derived.Test.YtmfncapgikobkaaGreatGClSa
import Derived.Test.YtmfncapgikobkaaGreatClLi
import Derived.Test.YtmfncapgikobkaaGreatGClM
import Derived.Test.YtmfncapgikobkaaGreatGClVp
import Derived.Test.YtmfncapgikobkaaGreatGNcRV
import Derived.Test.YtmfncapgikobkaaGreatGNcE

namespace Go.Proofs.YtmfncapgikobkaaGreat
set_option maxRecDepth 100000
set_option linter.unusedVariables false
set_option linter.unusedSimpArgs false
open Go.RowKit Nds Num
def RetCe (x y : Int) (s : Nat) (w : World) (e : Ending) (w' : World) : Prop :=
 ∃ u : Cv, e = .returned (cvv u) ∧ u.cl = ⟨x, y, s⟩ ∧ CvU w' u ∧ CvR u ∧ u.st = s ∧ Below w.heap.size w w'
set_option maxRecDepth 100000 in
set_option maxHeartbeats 3200000 in
theorem cell_any (x y : Int) (s : Nat) (w : World) (hs : s ≤ 255) (hx0 : -9223372036854775808 ≤ x) (hx1 : x ≤ 9223372036854775807) (hy0 : -9223372036854775808 ≤ y) (hy1 : y ≤ 9223372036854775807) :
  Calls Tryz.prog 24 #[.int .i64 x, .int .i64 y, .int .u8 s] w (RetCe x y s w) := by
 have hp0 := p2_mono (show 63 ≤ 1330 by omega)
 have hp1 : p2 63 = 9223372036854775808 := by decide
 have HMX := Lib.hid (show -p2 1330 ≤ x ∧ x ≤ p2 1330 from ⟨by omega, by omega⟩)
 have HMY := Lib.hid (show -p2 1330 ≤ y ∧ y ≤ p2 1330 from ⟨by omega, by omega⟩)
 obtain ⟨W, hW⟩ : ∃ W : World, W = w.alloc (.cells #[.bool false, .slice none 0 0, .bool false, .slice none 0 0, .int .u8 0] 47) := ⟨_, rfl⟩
 have hb : Below w.heap.size w W := by rw [hW]; exact (Below.refl _ w).alloc (Nat.le_refl _) _
 have HWL := Lib.hid (show w.heap.size < W.heap.size by rw [hW]; simp)
 have HB1 := Lib.hid (show W.heap[w.heap.size]? = some (.cells #[.bool false, .slice none 0 0, .bool false, .slice none 0 0, .int .u8 0] 47) by rw [hW]; exact heap_alloc_new w _)
 have HW := Lib.hid hW
 have HB := Lib.hid hb
 have q0 : True := trivial
 clear hp0 hp1 hW hb
 go_enter Tryz.func24, Tryz.ntmps24
 go_wp2_with (first
  | (have _t := q0; go_at_call 22; clear _t; go_loud (rw [← HW.out]; refine (rbof_any x _ hx0 hx1).mono ?_; rintro e w5 ⟨A5, c5, s5, r5, rfl, u5, k5, v5, b5⟩; have L5 := Lib.hid (len_near k5 v5 HMX.out.1 HMX.out.2); have hcap5 := u5.cap; have U5 := Lib.hid u5; have K5 := Lib.hid k5; have V5 := Lib.hid v5; have B5 := Lib.hid b5; clear u5 k5 v5 b5; have q1 := q0; clear q0))
  | (have _t := q1; go_at_call 22; clear _t; go_loud (refine (rbof_any y _ hy0 hy1).mono ?_; rintro e w6 ⟨A6, c6, s6, r6, rfl, u6, k6, v6, b6⟩; have L6 := Lib.hid (len_near k6 v6 HMY.out.1 HMY.out.2); have hcap6 := u6.cap; have U6 := Lib.hid u6; have K6 := Lib.hid k6; have V6 := Lib.hid v6; have U56 := Lib.hid (U5.out.below b6); have B6 := Lib.hid (B5.out.trans (b6.mono B5.out.size)); have Q6 := Lib.hid ((B6.out.block w.heap.size HWL.out).trans HB1.out); have z0 := cell_of_row w6 w.heap.size 0 _ _ (0, 0) Q6.out; have z1 := cell_of_row w6 w.heap.size 1 _ _ (0, 0) Q6.out; have z2 := cell_of_row w6 w.heap.size 2 _ _ (0, 0) Q6.out; have z3 := cell_of_row w6 w.heap.size 3 _ _ (0, 0) Q6.out; have z4 := cell_of_row w6 w.heap.size 4 _ _ (0, 0) Q6.out; have y0 := (show w6.frozen? ⟨w.heap.size, 0, none⟩ = false from frozen_of_row _ _ _ _ _ Q6.out); have y1 := (show w6.frozen? ⟨w.heap.size, 1, none⟩ = false from frozen_of_row _ _ _ _ _ Q6.out); have y2 := (show w6.frozen? ⟨w.heap.size, 2, none⟩ = false from frozen_of_row _ _ _ _ _ Q6.out); have y3 := (show w6.frozen? ⟨w.heap.size, 3, none⟩ = false from frozen_of_row _ _ _ _ _ Q6.out); have y4 := (show w6.frozen? ⟨w.heap.size, 4, none⟩ = false from frozen_of_row _ _ _ _ _ Q6.out); clear  u6 k6 v6 b6 q1)))
 have O6 : OwnC w6 w.heap.size (.slice (some ⟨w.heap.size, 0, none⟩) 1 1) [cv0] := ⟨rfl, .inr ⟨w.heap.size, 1, _, rfl, Nat.le_refl _, Q6.out, Nat.le_refl _, by simp [maxLen], rfl, rfl⟩⟩
 obtain ⟨u, hu⟩ : ∃ u : Cv, u = ⟨s5, A5, c5, r5, s6, A6, c6, r6, s⟩ := ⟨_, rfl⟩
 have OF := O6.put rfl (i := 0) (by omega) u
 have hG := setC_grown w6 w.heap.size 0 (.bool s5) (.slice A5 r5.length c5) (.bool s6) (.slice A6 r6.length c6) (.int .u8 s)
 rw [hu] at OF
 obtain ⟨Wf, hWf⟩ : ∃ V : World, V = ((((w6.setCell ⟨w.heap.size, 0, none⟩ (.bool s5)).setCell ⟨w.heap.size, 1, none⟩ (.slice A5 r5.length c5)).setCell ⟨w.heap.size, 2, none⟩ (.bool s6)).setCell ⟨w.heap.size, 3, none⟩ (.slice A6 r6.length c6)).setCell ⟨w.heap.size, 4, none⟩ (.int .u8 s) := ⟨_, rfl⟩
 rw [← hWf]
 have OF := (show OwnC Wf w.heap.size (.slice (some ⟨w.heap.size, 0, none⟩) 1 1) ([cv0].set 0 ⟨s5, A5, c5, r5, s6, A6, c6, r6, s⟩) by rw [hWf]; exact OF)
 have hG := (show w6.grownBy Wf (some w.heap.size) by rw [hWf]; exact hG)
 clear hWf z0 z1 z2 z3 z4 y0 y1 y2 y3 y4
 obtain ⟨A', c', e', -, -, -, h5⟩ := OF.shape
 cases e'
 obtain ⟨g', hg', -, -, hc, -⟩ := h5 _ rfl
 cases hg'
 obtain ⟨e0, e1, e2, e3, e4⟩ := hc 0 (by simp)
 have hlim := O6.no_limb rfl
 have hus : ∀ {A : Option Addr} {c : Nat} {xs : List Nat}, Us w6 A c xs → Us Wf A c xs := fun hu => us_kept hu (fun q h1 h3 => hG.block q h1 (fun e => h3 (Option.some.inj e))) hG.size (us_off hu hlim)
 refine bodyPost_ret (v := .agg #[.bool s5, .slice A5 r5.length c5, .bool s6, .slice A6 r6.length c6, .int .u8 s]) ?_ rfl ?_
 ·
  have e0 := (show Wf.cell? ⟨w.heap.size, 0, none⟩ = some (.bool s5) from e0)
  have e1 := (show Wf.cell? ⟨w.heap.size, 1, none⟩ = some (.slice A5 r5.length c5) from e1)
  have e2 := (show Wf.cell? ⟨w.heap.size, 2, none⟩ = some (.bool s6) from e2)
  have e3 := (show Wf.cell? ⟨w.heap.size, 3, none⟩ = some (.slice A6 r6.length c6) from e3)
  have e4 := (show Wf.cell? ⟨w.heap.size, 4, none⟩ = some (.int .u8 s) from e4)
  simp [results, Tryz.results24, go_sem, e0, e1, e2, e3, e4]
 ·
  refine ⟨⟨s5, A5, c5, r5, s6, A6, c6, r6, s⟩, rfl, ?_, ⟨hus U56.out, hus U6.out, hs⟩, ⟨K5.out, K6.out, by have := L5.out; dsimp only; omega, by have := L6.out; dsimp only; omega⟩, rfl, (HB.out.trans (B6.out.mono HB.out.size)).grown hG (Nat.le_trans HB.out.size B6.out.size) (fun q hq => by rw [← Option.some.inj hq]; exact Nat.le_refl _)⟩
  show (⟨ival s5 r5, ival s6 r6, (s : Int)⟩ : Cl) = ⟨x, y, s⟩
  rw [V5.out, V6.out]
/- The fixed fact's quads. -/
def two7 : List Nd := [⟨1, 1, 0, 0, 2⟩]
def far7 : List Nd := [⟨1, 0, 0, 0, 7⟩, ⟨2, 1, 0, 0, 0⟩, ⟨3, 0, 0, 0, 2⟩, ⟨4, 0, 3, 0, 0⟩]
theorem two7_cells : lastF [⟨0, 0, 2⟩, ⟨-1, -1, 1⟩] = cellsL two7 := by kernel_rfl
theorem far7_cells : lastF [⟨0, 0, 2⟩, ⟨5, -3, 7⟩, ⟨0, 0, 0⟩] = cellsL far7 := by kernel_rfl
theorem two7_self : OfL two7 two7.length = two7 := by kernel_rfl
theorem far7_self : OfL far7 far7.length = far7 := by kernel_rfl
theorem two7_least : leastF (lastF [⟨0, 0, 2⟩, ⟨-1, -1, 1⟩]) = 1 := by kernel_rfl
theorem far7_least : leastF (lastF [⟨0, 0, 2⟩, ⟨5, -3, 7⟩, ⟨0, 0, 0⟩]) = 4 := by kernel_rfl
theorem two7_loose : looseB two7 = true := by kernel_rfl
theorem far7_loose : looseB far7 = true := by kernel_rfl
theorem two7_quad {out : List Nd} (h : QuadOf (lastF [⟨0, 0, 2⟩, ⟨-1, -1, 1⟩]) out) : out = two7 := by
 have k := quadOf_self two7_loose
 rw [two7_self, ← two7_cells] at k
 exact quadOf_one h k fun _ _ => rfl
theorem far7_quad {out : List Nd} (h : QuadOf (lastF [⟨0, 0, 2⟩, ⟨5, -3, 7⟩, ⟨0, 0, 0⟩]) out) : out = far7 := by
 have k := quadOf_self far7_loose
 rw [far7_self, ← far7_cells] at k
 exact quadOf_one h k fun _ _ => rfl
theorem far7_list : cellsL far7 = [⟨5, -3, 7⟩] := by kernel_rfl
theorem two7_count : countT (den two7 two7.length) = 2 := by kernel_rfl
theorem far7_count : countT (den far7 far7.length) = 1 := by kernel_rfl
theorem cs_lit2 {w : World} {g : Nat} (u v : Cv) (h : w.heap[g]? = some (.cells #[.bool u.sx, .slice u.ax u.xs.length u.cx, .bool u.sy, .slice u.ay u.ys.length u.cy, .int .u8 u.st, .bool v.sx, .slice v.ax v.xs.length v.cx, .bool v.sy, .slice v.ay v.ys.length v.cy, .int .u8 v.st] 47)) (hu : CvU w u) (hv : CvU w v) : Cs w (some ⟨g, 0, none⟩) 2 [u, v] := by
 refine ⟨fun x hx => ?_, Nat.le_refl _, by simp [maxLen], fun _ => ⟨g, 0, rfl, (Array.getElem?_eq_some_iff.1 h).1, fun i hi => ?_⟩⟩
 ·
  simp only [List.mem_cons, List.not_mem_nil, or_false] at hx
  rcases hx with rfl | rfl
  ·
   exact hu
  ·
   exact hv
 ·
  match i, hi with
  | 0, _ => refine ⟨?_, ?_, ?_, ?_, ?_⟩ <;> (rw [cell_of_row _ _ _ _ _ _ h]; rfl)
  | 1, _ => refine ⟨?_, ?_, ?_, ?_, ?_⟩ <;> (rw [cell_of_row _ _ _ _ _ _ h]; rfl)
theorem cs_lit3 {w : World} {g : Nat} (u v t : Cv) (h : w.heap[g]? = some (.cells #[.bool u.sx, .slice u.ax u.xs.length u.cx, .bool u.sy, .slice u.ay u.ys.length u.cy, .int .u8 u.st, .bool v.sx, .slice v.ax v.xs.length v.cx, .bool v.sy, .slice v.ay v.ys.length v.cy, .int .u8 v.st, .bool t.sx, .slice t.ax t.xs.length t.cx, .bool t.sy, .slice t.ay t.ys.length t.cy, .int .u8 t.st] 47)) (hu : CvU w u) (hv : CvU w v) (ht : CvU w t) : Cs w (some ⟨g, 0, none⟩) 3 [u, v, t] := by
 refine ⟨fun x hx => ?_, Nat.le_refl _, by simp [maxLen], fun _ => ⟨g, 0, rfl, (Array.getElem?_eq_some_iff.1 h).1, fun i hi => ?_⟩⟩
 ·
  simp only [List.mem_cons, List.not_mem_nil, or_false] at hx
  rcases hx with rfl | rfl | rfl
  ·
   exact hu
  ·
   exact hv
  ·
   exact ht
 ·
  match i, hi with
  | 0, _ => refine ⟨?_, ?_, ?_, ?_, ?_⟩ <;> (rw [cell_of_row _ _ _ _ _ _ h]; rfl)
  | 1, _ => refine ⟨?_, ?_, ?_, ?_, ?_⟩ <;> (rw [cell_of_row _ _ _ _ _ _ h]; rfl)
  | 2, _ => refine ⟨?_, ?_, ?_, ?_, ?_⟩ <;> (rw [cell_of_row _ _ _ _ _ _ h]; rfl)
theorem cs_lit1 {w : World} {g : Nat} (u : Cv) (h : w.heap[g]? = some (.cells #[.bool u.sx, .slice u.ax u.xs.length u.cx, .bool u.sy, .slice u.ay u.ys.length u.cy, .int .u8 u.st] 47)) (hu : CvU w u) : Cs w (some ⟨g, 0, none⟩) 1 [u] := by
 refine ⟨fun x hx => ?_, Nat.le_refl _, by simp [maxLen], fun _ => ⟨g, 0, rfl, (Array.getElem?_eq_some_iff.1 h).1, fun i hi => ?_⟩⟩
 ·
  rw [List.mem_singleton.1 hx]
  exact hu
 ·
  match i, hi with
  | 0, _ => refine ⟨?_, ?_, ?_, ?_, ?_⟩ <;> (rw [cell_of_row _ _ _ _ _ _ h]; rfl)
theorem canon_rightC {s : Bool} {xs : List Nat} (h : CanonI s xs) : rightI s xs = true := by
 unfold rightI
 rw [Bool.and_eq_true]
 constructor
 ·
  have h1 := h.1
  unfold Canon at h1
  rw [List.getLast?_eq_getElem?] at h1
  unfold rightB
  rw [Bool.or_eq_true]
  rcases Nat.eq_zero_or_pos xs.length with h0 | h0
  ·
   exact .inl (by rw [h0]; rfl)
  ·
   right
   rw [bne_iff_ne]
   rw [List.getElem?_eq_getElem (by omega)] at h1 ⊢
   exact fun e => h1 (by rw [← e]; rfl)
 ·
  cases s
  ·
   rfl
  ·
   have := h.2 rfl
   simp
   exact List.length_pos_iff.2 this
theorem ok_all {l : List Cv} (h : ∀ v ∈ l, CvR v) : l.all okC = true := List.all_eq_true.2 fun v hv => by
 unfold okC
 rw [canon_rightC (h v hv).1, canon_rightC (h v hv).2.1]
 rfl
theorem cof_known (A : Option Addr) (c n : Nat) (l : List Cv) (q : List Nd) (qn : Nat) (w : World) (h : Cs w A c l) (hn : l.length = n) (hn9 : n ≤ 600) (hR : ∀ v ∈ l, CvR v) (h9 : leastF (lastF (l.map Cv.cl)) ≤ 1329) (hq : ∀ out, QuadOf (lastF (l.map Cv.cl)) out → out = q) (hqn : q.length = qn) :
  Calls Tryz.prog 9 #[.slice A n c] w fun e w' => ∃ A' c', e = .returned (.tuple #[.agg #[.slice A' qn c'], .int .i64 0]) ∧ Ns w' A' c' q ∧ (A' = none → c' = 0) ∧ Below w.heap.size w w' := by
 refine (cof_any A c n l w h hn hn9 fun v hv => ⟨(hR v hv).2.2.1, (hR v hv).2.2.2⟩).mono ?_
 rintro e w' ⟨v', out, er, rfl, ho, hb, hof⟩
 obtain ⟨rfl, hqq⟩ := hof.quad (ok_all hR) (fun v hv => (h.1 v hv).2.2) h9
 obtain rfl := hq out hqq
 subst hqn
 obtain ⟨A', c', hv', ns, hA', -⟩ := ho.shape
 exact ⟨A', c', by rw [hv'], ns, hA', hb⟩
end Go.Proofs.YtmfncapgikobkaaGreat

namespace Go.Proofs.YtmfncapgikobkaaGreat
set_option maxRecDepth 100000
set_option linter.unusedVariables false
set_option linter.unusedSimpArgs false
open Go.RowKit Nds Num
theorem of_two {A : Option Addr} {c : Nat} {u v : Cv} {w : World} (h : Cs w A c [u, v]) (m1 : u.cl = ⟨0, 0, (2 : Nat)⟩) (m2 : v.cl = ⟨-1, -1, (1 : Nat)⟩) (r1 : CvR u) (r2 : CvR v) :
  Calls Tryz.prog 9 #[.slice A 2 c] w fun e w' => ∃ A' c', e = .returned (.tuple #[.agg #[.slice A' 1 c'], .int .i64 0]) ∧ Ns w' A' c' two7 ∧ (A' = none → c' = 0) ∧ Below w.heap.size w w' := by
 have hm : [u, v].map Cv.cl = [⟨0, 0, 2⟩, ⟨-1, -1, 1⟩] := by
  rw [List.map_cons, List.map_cons, m1, m2]
  rfl
 refine cof_known A c 2 [u, v] two7 1 w h rfl (by omega) (fun x hx => ?_) (by rw [hm, two7_least]; omega) (fun out ho => two7_quad (by rw [hm] at ho; exact ho)) rfl
 simp only [List.mem_cons, List.not_mem_nil, or_false] at hx
 rcases hx with rfl | rfl
 ·
  exact r1
 ·
  exact r2
theorem of_far {A : Option Addr} {c : Nat} {u v t : Cv} {w : World} (h : Cs w A c [u, v, t]) (m1 : u.cl = ⟨0, 0, (2 : Nat)⟩) (m2 : v.cl = ⟨5, -3, (7 : Nat)⟩) (m3 : t.cl = ⟨0, 0, (0 : Nat)⟩) (r1 : CvR u) (r2 : CvR v) (r3 : CvR t) :
  Calls Tryz.prog 9 #[.slice A 3 c] w fun e w' => ∃ A' c', e = .returned (.tuple #[.agg #[.slice A' 4 c'], .int .i64 0]) ∧ Ns w' A' c' far7 ∧ (A' = none → c' = 0) ∧ Below w.heap.size w w' := by
 have hm : [u, v, t].map Cv.cl = [⟨0, 0, 2⟩, ⟨5, -3, 7⟩, ⟨0, 0, 0⟩] := by
  rw [List.map_cons, List.map_cons, List.map_cons, m1, m2, m3]
  rfl
 refine cof_known A c 3 [u, v, t] far7 4 w h rfl (by omega) (fun x hx => ?_) (by rw [hm, far7_least]; omega) (fun out ho => far7_quad (by rw [hm] at ho; exact ho)) rfl
 simp only [List.mem_cons, List.not_mem_nil, or_false] at hx
 rcases hx with rfl | rfl | rfl
 ·
  exact r1
 ·
  exact r2
 ·
  exact r3
theorem same_cl {w w' : World} : ∀ {l m : List Cv}, (∀ v ∈ l, CvU w v ∧ CvR v) → (∀ v ∈ m, CvU w' v ∧ CvR v) → l.map Cv.cl = m.map Cv.cl → l.map Cv.kk = m.map Cv.kk
 | [], [], _, _, _ => rfl
 | [], _ :: _, _, _, h => by cases h
 | _ :: _, [], _, _, h => by cases h
 | u :: l, v :: m, h1, h2, h => by
  rw [List.map_cons, List.map_cons] at h ⊢
  obtain ⟨e1, e2⟩ := List.cons.inj h
  obtain ⟨hu, ru⟩ := h1 u (by simp)
  obtain ⟨hv, rv⟩ := h2 v (by simp)
  rw [same_cl (fun x hx => h1 x (by simp [hx])) (fun x hx => h2 x (by simp [hx])) e2]
  have ex := congrArg Cl.x e1
  have ey := congrArg Cl.y e1
  have es := congrArg Cl.s e1
  obtain ⟨a1, a2⟩ := uniqI hu.1.1 hv.1.1 ru.1 rv.1 ex
  obtain ⟨b1, b2⟩ := uniqI hu.2.1.1 hv.2.1.1 ru.2.1 rv.2.1 ey
  have c1 : u.st = v.st := by
   have : ((u.st : Nat) : Int) = ((v.st : Nat) : Int) := es
   omega
  have : u.kk = v.kk := by
   unfold Cv.kk
   rw [a1, a2, b1, b2, c1]
  rw [this]
theorem two_near : -p2 1330 ≤ 2 ∧ 2 ≤ p2 1330 := by
 have h := p2_mono (show 1 ≤ 1330 by omega)
 have h1 : p2 1 = 2 := by decide
 omega
def bad7 : Cv := ⟨true, none, 0, [], false, none, 0, [], 0⟩
theorem bad7_ok : [bad7].all okC = false := by kernel_rfl
theorem of_bad {A : Option Addr} {c : Nat} {w : World} (h : Cs w A c [bad7]) :
  Calls Tryz.prog 9 #[.slice A 1 c] w fun e w' => ∃ A' c', e = .returned (.tuple #[.agg #[.slice A' 0 c'], .int .i64 1]) ∧ Below w.heap.size w w' := by
 refine (cof_any A c 1 [bad7] w h rfl (by omega) fun v hv => by rw [List.mem_singleton.1 hv]; exact ⟨Nat.zero_le _, Nat.zero_le _⟩).mono ?_
 rintro e w' ⟨v', out, er, rfl, ho, hb, hof⟩
 obtain ⟨rfl, rfl⟩ := hof.1 bad7_ok
 obtain ⟨A', c', hv', -, -, -⟩ := ho.shape
 exact ⟨A', c', by rw [hv']; rfl, hb⟩
set_option maxRecDepth 100000 in
set_option maxHeartbeats 6400000 in
theorem alive7_any (w : World) : Calls Tryz.prog 7 #[] w fun e w' => e = .returned (.bool true) ∧ Below w.heap.size w w' := by
 have q0 : True := trivial
 go_enter Tryz.func7, Tryz.ntmps7
 go_wp2_with (first
  | (have _t := q0; go_at_call 24; clear _t; go_loud (refine (cell_any 0 0 2 _ (by omega) (by omega) (by omega) (by omega) (by omega)).mono ?_; rintro e w1 ⟨u1, rfl, m1, v1, r1, st1, b1⟩; have p1 := v1.1.cap; have p2 := v1.2.1.cap; have U1 := Lib.hid v1; have R1 := Lib.hid r1; have M1 := Lib.hid m1; have S1 := Lib.hid st1; have B1 := Lib.hid b1; clear v1 r1 m1 st1 b1; have q1 := q0; clear q0))
  | (have _t := q1; go_at_call 24; clear _t; go_loud (refine (cell_any (-1) (-1) 1 _ (by omega) (by omega) (by omega) (by omega) (by omega)).mono ?_; rintro e w2 ⟨u2, rfl, m2, v2, r2, st2, b2⟩; have p3 := v2.1.cap; have p4 := v2.2.1.cap; have U2 := Lib.hid v2; have R2 := Lib.hid r2; have M2 := Lib.hid m2; have S2 := Lib.hid st2; have B2 := Lib.hid (B1.out.trans (b2.mono B1.out.size)); have U12 := Lib.hid (U1.out.below b2); clear v2 r2 m2 st2 b2; have q2 := q1; clear q1))
  | (have _t := q2; go_at_call 9; clear _t; go_loud (have hal := (Below.refl w2.heap.size w2).alloc (Nat.le_refl _) (.cells #[.bool u1.sx, .slice u1.ax u1.xs.length u1.cx, .bool u1.sy, .slice u1.ay u1.ys.length u1.cy, .int .u8 u1.st, .bool u2.sx, .slice u2.ax u2.xs.length u2.cx, .bool u2.sy, .slice u2.ay u2.ys.length u2.cy, .int .u8 u2.st] 47); refine (of_two (cs_lit2 u1 u2 (heap_alloc_new w2 _) (U12.out.below hal) (U2.out.below hal)) M1.out M2.out R1.out R2.out).mono ?_; rintro e w3 ⟨A3, c3, rfl, n3, -, b3⟩; have HS := Lib.hid (((Al.start w).step (B2.out.trans ((hal.trans (b3.mono hal.size)).mono B2.out.size))).addN n3 |>.addB (.slice A3 1 c3)); clear n3 b3 hal; have q3 := q2; clear q2))
  | (have _t := q3; go_at_call 24; clear _t; go_loud (refine (cell_any 0 0 2 _ (by omega) (by omega) (by omega) (by omega) (by omega)).mono ?_; rintro e w4 ⟨u4, rfl, m4, v4, r4, st4, b4⟩; have p4 := v4.1.cap; have p_4 := v4.2.1.cap; have U4 := Lib.hid v4; have R4 := Lib.hid r4; have M4 := Lib.hid m4; have HS := Lib.hid (HS.out.step b4); clear v4 r4 m4 st4 b4; have q4 := q3; clear q3))
  | (have _t := q4; go_at_call 24; clear _t; go_loud (refine (cell_any 5 (-3) 7 _ (by omega) (by omega) (by omega) (by omega) (by omega)).mono ?_; rintro e w5 ⟨u5, rfl, m5, v5, r5, st5, b5⟩; have p5 := v5.1.cap; have p_5 := v5.2.1.cap; have U5 := Lib.hid v5; have R5 := Lib.hid r5; have M5 := Lib.hid m5; have HS := Lib.hid (HS.out.step b5); have U4 := Lib.hid (U4.out.below b5); clear v5 r5 m5 st5 b5; have q5 := q4; clear q4))
  | (have _t := q5; go_at_call 24; clear _t; go_loud (refine (cell_any 0 0 0 _ (by omega) (by omega) (by omega) (by omega) (by omega)).mono ?_; rintro e w6 ⟨u6, rfl, m6, v6, r6, st6, b6⟩; have p6 := v6.1.cap; have p_6 := v6.2.1.cap; have U6 := Lib.hid v6; have R6 := Lib.hid r6; have M6 := Lib.hid m6; have HS := Lib.hid (HS.out.step b6); have U4 := Lib.hid (U4.out.below b6); have U5 := Lib.hid (U5.out.below b6); clear v6 r6 m6 st6 b6; have q6 := q5; clear q5))
  | (have _t := q6; go_at_call 9; clear _t; go_loud (have hal := (Below.refl w6.heap.size w6).alloc (Nat.le_refl _) (.cells #[.bool u4.sx, .slice u4.ax u4.xs.length u4.cx, .bool u4.sy, .slice u4.ay u4.ys.length u4.cy, .int .u8 u4.st, .bool u5.sx, .slice u5.ax u5.xs.length u5.cx, .bool u5.sy, .slice u5.ay u5.ys.length u5.cy, .int .u8 u5.st, .bool u6.sx, .slice u6.ax u6.xs.length u6.cx, .bool u6.sy, .slice u6.ay u6.ys.length u6.cy, .int .u8 u6.st] 47); refine (of_far (cs_lit3 u4 u5 u6 (heap_alloc_new w6 _) (U4.out.below hal) (U5.out.below hal) (U6.out.below hal)) M4.out M5.out M6.out R4.out R5.out R6.out).mono ?_; rintro e w7 ⟨A7, c7, rfl, n7, -, b7⟩; have HS := Lib.hid (((HS.out.step (hal.trans (b7.mono hal.size))).addN n7).addB (.slice A7 4 c7)); clear n7 b7 hal; have q7 := q6; clear q6))
  | (have _t := q7; go_at_call 9; clear _t; go_loud (refine (of_bad (cs_lit1 bad7 (by have h := heap_alloc_new (w7.alloc (.cells #[.slice A7 4 c7] 27)) (.cells #[.bool true, .slice none 0 0, .bool false, .slice none 0 0, .int .u8 0] 47); rw [show (w7.alloc (.cells #[.slice A7 4 c7] 27)).heap.size = w7.heap.size + 1 by simp] at h; exact h) ⟨Us.nil _, Us.nil _, Nat.zero_le _⟩)).mono ?_; rintro e w8 ⟨A8, c8, rfl, b8⟩; have HS := Lib.hid ((((HS.out.alloc _).step b8)).addB (.slice A8 0 c8)); have k1 := HS.out.getB (g := w7.heap.size) (v := .slice A7 4 c7) (by simp); clear b8; have q8 := q7; clear q7))
  | (have _t := q8; go_at_call 15; clear _t; go_loud (refine (list_any A7 c7 4 far7 1 _ (HS.out.getN (A := A7) (c := c7) (by simp)) rfl far7_loose (by omega) (by omega) (by omega)).mono ?_; rintro e w9 ⟨b9, hm9⟩; obtain ⟨A9, c9, L9, rfl, cs9, cr9, ml9⟩ := (hm9.resolve_left (fun e => by have h1 := e.1; rw [far7_count] at h1; omega)).2; have HS := Lib.hid (HS.out.step b9); rw [far7_list] at ml9; have CS9 := Lib.hid cs9; have CR9 := Lib.hid cr9; have ML9 := Lib.hid ml9; have k2 := HS.out.getB (g := w3.heap.size) (v := .slice A3 1 c3) (by simp); clear b9 hm9 cs9 cr9 ml9 k1; have q9 := q8; clear q8))
  | (have _t := q9; go_at_call 15; clear _t; go_loud (refine (list_any A3 c3 1 two7 1 _ (HS.out.getN (A := A3) (c := c3) (by simp)) rfl two7_loose (by omega) (by omega) (by omega)).mono ?_; rintro e w10 ⟨b10, hm10⟩; obtain ⟨-, rfl⟩ := hm10.resolve_right (fun e => by have h1 := e.1; rw [two7_count] at h1; omega); have HS := Lib.hid (HS.out.step b10); have CS9 := Lib.hid (CS9.out.below b10); have k3 := HS.out.getB (g := w3.heap.size) (v := .slice A3 1 c3) (by simp); clear b10 hm10 k2; have q10 := q9; clear q9))
  | (have _t := q10; go_at_call 11; clear _t; go_loud (refine (rsame_any _ _ _ _ 1 1 two7 [⟨1, 1, 0, 0, 2⟩] _ ((HS.out.alloc _).getN (A := A3) (c := c3) (by simp)) (ns_lit1 w10 w10.heap.size ⟨1, 1, 0, 0, 2⟩ (by refine ⟨⟨?_, ?_⟩, ⟨?_, ?_⟩, ⟨?_, ?_⟩, ⟨?_, ?_⟩, ⟨?_, ?_⟩⟩ <;> simp) rfl) rfl rfl).mono ?_; rintro e w11 ⟨rfl, b11⟩; rw [show decide (two7 = [⟨1, 1, 0, 0, 2⟩]) = true from by kernel_rfl]; have CS9 := Lib.hid ((CS9.out.below ((Below.refl _ _).alloc (Nat.le_refl _) _)).below b11); have HS := Lib.hid ((HS.out.alloc _).step b11); clear b11 k3; have q11 := q10; clear q10))
  | (have _t := q11; go_at_call 24; clear _t; go_loud (refine (cell_any 5 (-3) 7 _ (by omega) (by omega) (by omega) (by omega) (by omega)).mono ?_; rintro e w12 ⟨u7, rfl, m7, v7, r7, st7, b12⟩; have p7 := v7.1.cap; have p_7 := v7.2.1.cap; have U7 := Lib.hid v7; have R7 := Lib.hid r7; have M7 := Lib.hid m7; have HS := Lib.hid (HS.out.step b12); have CS9 := Lib.hid (CS9.out.below b12); clear v7 r7 m7 st7 b12; have q12 := q11; clear q11))
  | (have _t := q12; go_at_call 12; clear _t; go_loud (have hal := (Below.refl w12.heap.size w12).alloc (Nat.le_refl _) (.cells #[.bool u7.sx, .slice u7.ax u7.xs.length u7.cx, .bool u7.sy, .slice u7.ay u7.ys.length u7.cy, .int .u8 u7.st] 47); refine (rcsame_any A9 (some ⟨w12.heap.size, 0, none⟩) c9 1 L9.length 1 L9 [u7] _ (CS9.out.below hal) (cs_lit1 u7 (heap_alloc_new w12 _) (U7.out.below hal)) rfl rfl (fun v hv => ⟨Nat.le_trans (CR9.out v hv).2.2.1 (by omega), Nat.le_trans (CR9.out v hv).2.2.2 (by omega)⟩)).mono ?_; rintro e w13 ⟨rfl, b13⟩; rw [show sameCs L9 [u7] = true from decide_eq_true (same_cl (fun v hv => ⟨CS9.out.1 v hv, CR9.out v hv⟩) (fun v hv => by rw [List.mem_singleton.1 hv]; exact ⟨U7.out, R7.out⟩) (by rw [ML9.out, List.map_singleton, M7.out]; rfl))]; have HS := Lib.hid ((HS.out.alloc _).step b13); have k4 := HS.out.getB (g := w3.heap.size) (v := .slice A3 1 c3) (by simp); clear b13 hal; have q13 := q12; clear q12))
  | (have _t := q13; go_at_call 18; clear _t; go_loud (refine (count_any A3 c3 1 two7 _ (HS.out.getN (A := A3) (c := c3) (by simp)) rfl two7_loose (by omega)).mono ?_; rintro e w14 ⟨A14, c14, s14, r14, rfl, u14, k14, v14, b14⟩; have cp14 := u14.cap; have U14 := Lib.hid u14; have K14 := Lib.hid k14; have V14 := Lib.hid (show ival s14 r14 = 2 by rw [v14]; exact congrArg Int.ofNat two7_count); have HS := Lib.hid (HS.out.step b14); clear u14 k14 v14 b14 k4; have q14 := q13; clear q13))
  | (have _t := q14; go_at_call 22; clear _t; go_loud (refine (rbof_any 2 _ (by omega) (by omega)).mono ?_; rintro e w15 ⟨A15, c15, s15, r15, rfl, u15, k15, v15, b15⟩; have cp15 := u15.cap; have U15 := Lib.hid u15; have K15 := Lib.hid k15; have V15 := Lib.hid v15; have U14 := Lib.hid (U14.out.below b15); have HS := Lib.hid (HS.out.step b15); clear u15 k15 v15 b15; have q15 := q14; clear q14))
  | (have _t := q15; go_at_call 17; clear _t; go_loud (refine (rbsame_any s14 s15 _ _ _ _ r14 r15 _ U14.out U15.out (by have := len_near K14.out V14.out two_near.1 two_near.2; omega)).mono ?_; rintro e w16 ⟨rfl, b16⟩; rw [show decide (s14 = s15 ∧ r14 = r15) = true from decide_eq_true (uniqI U14.out.1 U15.out.1 K14.out K15.out (V14.out.trans V15.out.symm))]; have HS := Lib.hid (HS.out.step b16); have k5 := HS.out.getB (g := w7.heap.size) (v := .slice A7 4 c7) (by simp); clear b16; have q16 := q15; clear q15))
  | (have _t := q16; go_at_call 14; clear _t; go_loud (refine (rlevel_any A7 c7 4 far7 _ (HS.out.getN (A := A7) (c := c7) (by simp)) rfl).mono ?_; rintro e w17 ⟨rfl, b17⟩; rw [show levelZ far7 = 4 from by kernel_rfl]; have HS := Lib.hid (HS.out.step b17); clear b17 k5; have q17 := q16; clear q16)))
 go_ret
 exact ⟨rfl, HS.out.sn.1⟩
end Go.Proofs.YtmfncapgikobkaaGreat

namespace Go.Proofs.YtmfncapgikobkaaGreat
set_option maxRecDepth 100000
set_option linter.unusedVariables false
set_option linter.unusedSimpArgs false
open Nds
theorem insC_len : ∀ (l : List Cl) (c : Cl), (insC l c).length ≤ l.length + 1
 | [], c => Nat.le_refl _
 | a :: l, c => by
  have h := insC_len l c
  unfold insC
  split
  ·
   rw [List.length_cons, List.length_cons]
   omega
  ·
   split
   ·
    rw [List.length_cons, List.length_cons]
    omega
   ·
    rw [List.length_cons, List.length_cons]
    omega
theorem insF_len : ∀ (l m : List Cl), (l.foldl insC m).length ≤ m.length + l.length
 | [], m => Nat.le_refl _
 | c :: l, m => by
  have h := insF_len l (insC m c)
  have h2 := insC_len m c
  rw [List.foldl_cons, List.length_cons]
  omega
theorem lastF_le (l : List Cl) : (lastF l).length ≤ l.length := by
 unfold lastF insAll
 have h := insF_len l []
 have h2 := List.length_filter_le (fun c : Cl => c.s != 0) (l.foldl insC [])
 simp only [List.length_nil, Nat.zero_add] at h
 exact Nat.le_trans h2 h
theorem count_pos : ∀ (t : Tr) (n : Nat), wfT (n : Int) t → t ≠ .e → 1 ≤ countT t
 | .e, _, _, h => absurd rfl h
 | .s k, _, _, _ => Nat.le_refl 1
 | .n v a b c d, n, h, _ => by
  have hv := h.1
  obtain ⟨m, rfl, hv2, ha, hb, hc, hd, _⟩ := wf_n h
  obtain ⟨i, hi, hne⟩ := wf_all h
  show 1 ≤ countT a + countT b + countT c + countT d
  match i, hi with
  | 0, _ => have := count_pos a m ha hne; omega
  | 1, _ => have := count_pos b m hb hne; omega
  | 2, _ => have := count_pos c m hc hne; omega
  | 3, _ => have := count_pos d m hd hne; omega
theorem add_le (out : List Nd) (x : Nd) : (add out x).1.length ≤ out.length + 1 := by
 unfold add
 split
 ·
  simp
 ·
  exact Nat.le_succ _
theorem enc_cnt : ∀ (t : Tr) (n : Nat) (out : List Nd), wfT (n : Int) t → (enc t out).1.length ≤ out.length + n * countT t
 | .e, n, out, _ => Nat.le_add_right _ _
 | .s k, n, out, _ => Nat.le_add_right _ _
 | .n v a b c d, n, out, h => by
  have hp : 1 ≤ countT a + countT b + countT c + countT d := count_pos (.n v a b c d) n h (by simp)
  obtain ⟨m, rfl, hv2, ha, hb, hc, hd, _⟩ := wf_n h
  have h0 := enc_cnt a m out ha
  have h1 := enc_cnt b m (outK (Tr.n v a b c d).q out 1) hb
  have h2 := enc_cnt c m (outK (Tr.n v a b c d).q out 2) hc
  have h3 := enc_cnt d m (outK (Tr.n v a b c d).q out 3) hd
  have h4 := add_le (outK (Tr.n v a b c d).q out 4) (topN (Tr.n v a b c d).q out v)
  have e1 : (outK (Tr.n v a b c d).q out 1).length = (enc a out).1.length := rfl
  have e2 : (outK (Tr.n v a b c d).q out 2).length = (enc b (outK (Tr.n v a b c d).q out 1)).1.length := rfl
  have e3 : (outK (Tr.n v a b c d).q out 3).length = (enc c (outK (Tr.n v a b c d).q out 2)).1.length := rfl
  have e4 : (outK (Tr.n v a b c d).q out 4).length = (enc d (outK (Tr.n v a b c d).q out 3)).1.length := rfl
  rw [enc_n]
  show (add (outK (Tr.n v a b c d).q out 4) (topN (Tr.n v a b c d).q out v)).1.length ≤ out.length + (m + 1) * (countT a + countT b + countT c + countT d)
  rw [Nat.add_mul, Nat.one_mul, Nat.mul_add, Nat.mul_add, Nat.mul_add]
  omega
theorem QuadOf.lenF {X : List Cl} {out : List Nd} (h : QuadOf (lastF X) out) : countT (Nds.den out out.length) = (lastF X).length ∧ out.length ≤ 1329 * (lastF X).length := by
 have h1 := cells_len h.good.1
 rw [h.cells (lastF_srt X) fun c hc => ((lastF_spec X).2.2 c hc).1] at h1
 refine ⟨h1.symm, ?_⟩
 obtain ⟨t, n, w1, w2, w3, rfl, w5⟩ := h
 by_cases he : t = .e
 ·
  subst he
  exact Nat.zero_le _
 ·
  obtain ⟨_, _, hd⟩ := enc_root w1 he w2
  rw [hd] at h1
  have h2 := enc_cnt t n [] w1
  rw [h1]
  have hn : n ≤ 1329 := by
   cases t with
   | e => exact absurd rfl he
   | s k => exact absurd rfl (w2 k)
   | n v a b c d =>
    have := w1.1
    have := w1.2.2.1
    omega
  have h3 := Nat.mul_le_mul_right (countT t) hn
  rw [List.length_nil, Nat.zero_add] at h2
  exact Nat.le_trans h2 h3
def rotV (L : List Cv) (t k : Nat) : List Cv := (List.range k).map fun i => cat L ((i + t) % L.length)
theorem rotV_succ (L : List Cv) (t k : Nat) : rotV L t (k + 1) = rotV L t k ++ [cat L ((k + t) % L.length)] := by
 unfold rotV
 rw [List.range_succ, List.map_append]
 rfl
theorem rotV_len (L : List Cv) (t k : Nat) : (rotV L t k).length = k := by
 unfold rotV
 rw [List.length_map, List.length_range]
theorem rotV_mem {L : List Cv} {t k : Nat} (hk : k ≤ L.length) {v : Cv} (h : v ∈ rotV L t k) : v ∈ L := by
 unfold rotV at h
 obtain ⟨i, hi, rfl⟩ := List.mem_map.1 h
 have hi := List.mem_range.1 hi
 exact cat_mem (Nat.mod_lt _ (by omega))
theorem rotV_perm (L : List Cv) (t : Nat) : (rotV L t L.length).Perm L := by
 rcases Nat.eq_zero_or_pos L.length with h0 | h0
 ·
  rw [List.eq_nil_of_length_eq_zero h0]
  exact List.Perm.refl _
 ·
  obtain ⟨r, hr⟩ : ∃ r, r = t % L.length := ⟨_, rfl⟩
  have hrl : r < L.length := by rw [hr]; exact Nat.mod_lt _ h0
  have e : rotV L t L.length = L.drop r ++ L.take r := by
   refine List.ext_getElem ?_ fun i h1 h2 => ?_
   ·
    rw [rotV_len, List.length_append, List.length_drop, List.length_take]
    omega
   ·
    rw [rotV_len] at h1
    have h3 : (rotV L t L.length)[i] = cat L ((i + t) % L.length) := by
     rw [List.getElem_eq_iff]
     unfold rotV
     rw [List.getElem?_map, List.getElem?_range h1]
     rfl
    have hm : (i + t) % L.length = (i + r) % L.length := by rw [hr, Nat.add_mod_mod]
    rw [h3, hm, List.getElem_append]
    unfold cat
    split
    ·
     rename_i h4
     rw [List.length_drop] at h4
     rw [Nat.mod_eq_of_lt (by omega), List.getElem?_eq_getElem (by omega), List.getElem_drop]
     simp only [Option.getD_some, Nat.add_comm]
    ·
     rename_i h4
     rw [List.length_drop] at h4
     have e2 : (i + r) % L.length = i - (L.length - r) := by
      rw [Nat.mod_eq_sub_mod (by omega), Nat.mod_eq_of_lt (by omega)]
      omega
     rw [e2, List.getElem?_eq_getElem (by omega), List.getElem_take]
     simp only [Option.getD_some, List.length_drop]
  rw [e]
  exact List.perm_append_comm.trans (by rw [List.take_append_drop])
end Go.Proofs.YtmfncapgikobkaaGreat

namespace Go.Proofs.YtmfncapgikobkaaGreat
set_option maxRecDepth 100000
set_option linter.unusedVariables false
set_option linter.unusedSimpArgs false
open Go.RowKit Nds Num
theorem cgreat_no {l : List Cv} {most : Int} (h : greatB l most = false) : (l.length : Int) ≤ most ∧ ∀ v ∈ l, v.xs.length ≤ 50 ∧ v.ys.length ≤ 50 := by
 unfold greatB at h
 rw [Bool.or_eq_false_iff, decide_eq_false_iff_not] at h
 refine ⟨by omega, fun v hv => ?_⟩
 have h2 := List.any_eq_false.1 h.2 v hv
 unfold vast at h2
 rw [Bool.or_eq_true, decide_eq_true_iff, decide_eq_true_iff] at h2
 omega
theorem cvR_ok {l : List Cv} (hok : l.all okC = true) (hl : ∀ v ∈ l, v.xs.length ≤ 50 ∧ v.ys.length ≤ 50) : ∀ v ∈ l, CvR v := fun v hv => by
 have h1 := List.all_eq_true.1 hok v hv
 unfold okC at h1
 rw [Bool.and_eq_true] at h1
 have h2 := hl v hv
 exact ⟨right_canonC h1.1, right_canonC h1.2, by omega, by omega⟩
theorem cof_bad (A : Option Addr) (c n : Nat) (l : List Cv) (w : World) (h : Cs w A c l) (hn : l.length = n) (hn9 : n ≤ 600) (hl : ∀ v ∈ l, v.xs.length ≤ 60000 ∧ v.ys.length ≤ 60000) (hb : l.all okC = false ∨ 1329 < leastF (lastF (l.map Cv.cl))) :
  Calls Tryz.prog 9 #[.slice A n c] w fun e w' => ∃ A' c' er, e = .returned (.tuple #[.agg #[.slice A' 0 c'], .int .i64 er]) ∧ (er != 0) = true ∧ Below w.heap.size w w' := by
 refine (cof_any A c n l w h hn hn9 hl).mono ?_
 rintro e w' ⟨v', out, er, rfl, ho, hbl, hof⟩
 have key : (er != 0) = true ∧ out = [] := by
  cases hok : l.all okC with
  | false => exact ⟨by rw [(hof.1 hok).1]; rfl, (hof.1 hok).2⟩
  | true =>
   have h1 := (hof.2 hok).1 (hb.resolve_left (by rw [hok]; simp))
   exact ⟨by rw [h1.1]; rfl, h1.2⟩
 obtain ⟨k, rfl⟩ := key
 obtain ⟨A', c', hv', -, -, -⟩ := ho.shape
 exact ⟨A', c', er, by rw [hv']; rfl, k, hbl⟩
theorem cof_good (A : Option Addr) (c n : Nat) (l : List Cv) (w : World) (h : Cs w A c l) (hn : l.length = n) (hn9 : n ≤ 600) (hR : ∀ v ∈ l, CvR v) (h9 : leastF (lastF (l.map Cv.cl)) ≤ 1329) :
  Calls Tryz.prog 9 #[.slice A n c] w fun e w' => ∃ A' c' qn out, e = .returned (.tuple #[.agg #[.slice A' qn c'], .int .i64 0]) ∧ out.length = qn ∧ Ns w' A' c' out ∧ (A' = none → c' = 0) ∧ QuadOf (lastF (l.map Cv.cl)) out ∧ Below w.heap.size w w' := by
 refine (cof_any A c n l w h hn hn9 fun v hv => ⟨(hR v hv).2.2.1, (hR v hv).2.2.2⟩).mono ?_
 rintro e w' ⟨v', out, er, rfl, ho, hb, hof⟩
 obtain ⟨rfl, hqq⟩ := hof.quad (ok_all hR) (fun v hv => (h.1 v hv).2.2) h9
 obtain ⟨A', c', hv', ns, hA', -⟩ := ho.shape
 exact ⟨A', c', _, out, by rw [hv'], rfl, ns, hA', hqq, hb⟩
set_option maxRecDepth 100000 in
set_option maxHeartbeats 3200000 in
theorem cback_great (A : Option Addr) (c n t : Nat) (l : List Cv) (w : World) (h : Cs w A c l) (hn : l.length = n) (hg : greatB l 40 = true) :
  Calls Tryz.prog 5 #[.slice A n c, .int .u8 (t : Int)] w fun e w' => e = .returned (.bool true) ∧ Below w.heap.size w w' := by
 have HC := Lib.hid h
 have HN := Lib.hid hn
 have HG := Lib.hid hg
 clear h hn hg
 go_enter Tryz.func5, Tryz.ntmps5
 go_wp2_with (first
  | (go_at_call 7; refine (alive7_any _).mono ?_; rintro e w1 ⟨rfl, b1⟩; have B1 := Lib.hid b1; clear b1)
  | (go_at_call 8; refine (cgreat_any A c n 40 l _ (HC.out.below B1.out) HN.out).mono ?_; rintro e w2 ⟨rfl, m2, rfl⟩; rw [HG.out]; have B2 := Lib.hid (below_drewN' B1.out m2)))
 go_ret
 exact ⟨rfl, B2.out⟩
set_option maxRecDepth 100000 in
set_option maxHeartbeats 3200000 in
theorem cback_bad (A : Option Addr) (c n t : Nat) (l : List Cv) (w : World) (h : Cs w A c l) (hn : l.length = n) (hg : greatB l 40 = false) (hb : l.all okC = false ∨ 1329 < leastF (lastF (l.map Cv.cl))) :
  Calls Tryz.prog 5 #[.slice A n c, .int .u8 (t : Int)] w fun e w' => e = .returned (.bool true) ∧ Below w.heap.size w w' := by
 obtain ⟨hn4, hlen⟩ := cgreat_no hg
 rw [hn] at hn4
 have hn6 : n ≤ 40 := by omega
 have HC := Lib.hid h
 have HN := Lib.hid hn
 have HG := Lib.hid hg
 have HLN := Lib.hid hlen
 have HBD := Lib.hid hb
 have q0 : True := trivial
 clear h hn hg hlen hb
 go_enter Tryz.func5, Tryz.ntmps5
 go_wp2_with (first
  | (have _t := q0; go_at_call 7; clear _t; go_loud (refine (alive7_any _).mono ?_; rintro e w1 ⟨rfl, b1⟩; have HS := Lib.hid ((Al.start w).step b1); have HC := Lib.hid (HC.out.below b1); clear b1; have q1 := q0; clear q0))
  | (have _t := q1; go_at_call 8; clear _t; go_loud (refine (cgreat_any A c n 40 l _ HC.out HN.out).mono ?_; rintro e w2 ⟨rfl, m2, hw2⟩; rw [HG.out]; have b2 := (show Below w1.heap.size w1 w2 by rw [hw2]; exact below_drewN' (Below.refl _ _) m2); clear hw2; have HS := Lib.hid (HS.out.step b2); have HC := Lib.hid (HC.out.below b2); clear b2; have q2 := q1; clear q1))
  | (have _t := q2; go_at_call 9; clear _t; go_loud (refine (cof_bad A c n l _ HC.out HN.out (by omega) (fun v hv => ⟨Nat.le_trans (HLN.out v hv).1 (by omega), Nat.le_trans (HLN.out v hv).2 (by omega)⟩) HBD.out).mono ?_; rintro e w3 ⟨A3, c3, er, rfl, te, b3⟩; have HS := Lib.hid ((HS.out.step b3).addB (.slice A3 0 c3)); have g3 := HS.out.getB (g := w3.heap.size) (v := .slice A3 0 c3) (by simp); clear b3; have q3 := q2; clear q2)))
 go_ret
 exact ⟨rfl, HS.out.sn.1⟩
set_option maxRecDepth 100000 in
set_option maxHeartbeats 6400000 in
theorem cback_main (A : Option Addr) (c n t : Nat) (l : List Cv) (w : World) (h : Cs w A c l) (hn : l.length = n) (ht : t ≤ 255) (hg : greatB l 40 = false) (hok : l.all okC = true) (h9 : leastF (lastF (l.map Cv.cl)) ≤ 1329) :
  Calls Tryz.prog 5 #[.slice A n c, .int .u8 (t : Int)] w fun e w' => e = .returned (.bool true) ∧ Below w.heap.size w w' := by
 obtain ⟨hn4, hlen⟩ := cgreat_no hg
 rw [hn] at hn4
 have hn6 : n ≤ 40 := by omega
 have HC := Lib.hid h
 have HN := Lib.hid hn
 have HG := Lib.hid hg
 have HLN := Lib.hid hlen
 have HR := Lib.hid (cvR_ok hok hlen)
 have H9 := Lib.hid h9
 have q0 : True := trivial
 clear h hn hg hlen hok h9
 go_enter Tryz.func5, Tryz.ntmps5
 go_wp2_with (first
  | (have _t := q0; go_at_call 7; clear _t; go_loud (refine (alive7_any _).mono ?_; rintro e w1 ⟨rfl, b1⟩; have HS := Lib.hid ((Al.start w).step b1); have HC := Lib.hid (HC.out.below b1); clear b1; have q1 := q0; clear q0))
  | (have _t := q1; go_at_call 8; clear _t; go_loud (refine (cgreat_any A c n 40 l _ HC.out HN.out).mono ?_; rintro e w2 ⟨rfl, m2, hw2⟩; rw [HG.out]; have b2 := (show Below w1.heap.size w1 w2 by rw [hw2]; exact below_drewN' (Below.refl _ _) m2); clear hw2; have HS := Lib.hid (HS.out.step b2); have HC := Lib.hid (HC.out.below b2); clear b2; have q2 := q1; clear q1))
  | (have _t := q2; go_at_call 9; clear _t; go_loud (refine (cof_good A c n l _ HC.out HN.out (by omega) HR.out H9.out).mono ?_; rintro e w3 ⟨A3, c3, qn, q, rfl, l3, n3, a3, u3, b3⟩; obtain ⟨cn3, le3⟩ := u3.lenF; rw [l3] at cn3 le3; have ll3 := lastF_le (l.map Cv.cl); rw [List.length_map, HN.out] at ll3; have qn9 : qn ≤ 53160 := (by omega); have HQN := Lib.hid l3; have HA3 := Lib.hid a3; have HQ := Lib.hid u3; have HCN := Lib.hid cn3; have HLL := Lib.hid ll3; have HC := Lib.hid ((HC.out.below b3).below ((Below.refl _ w3).alloc (Nat.le_refl _) (.cells #[.slice A3 qn c3] 27))); have HS := Lib.hid (((HS.out.step b3).addN n3).addB (.slice A3 qn c3)); have g3 := HS.out.getB (g := w3.heap.size) (v := .slice A3 qn c3) (by simp); clear l3 n3 a3 u3 b3 cn3 le3 ll3; have q3 := q2; clear q2))
  | (have _t := q3; go_at_call 15; clear _t; go_loud (refine (list_any A3 c3 qn q 40 _ (HS.out.getN (A := A3) (c := c3) (l := q) (by simp)) HQN.out HQ.out.good.1 (by omega) (by omega) (by omega)).mono ?_; rintro e w4 ⟨b4, hm4⟩; obtain ⟨A4, c4, L, he4, cs4, cr4, ml4⟩ := (hm4.resolve_left (fun e => by have h1 := e.1; have h2 := HCN.out; have h3 := HLL.out; rw [HQN.out] at h1; omega)).2; rw [HQ.out.cells (lastF_srt _) (fun c hc => ((lastF_spec _).2.2 c hc).1)] at ml4; obtain ⟨p, hp⟩ : ∃ p, L.length = p := ⟨_, rfl⟩; rw [hp] at he4; subst he4; have hp4 := (show p ≤ 40 by have h1 := congrArg List.length ml4; rw [List.length_map] at h1; have h3 := HLL.out; omega); have cp4 := cs4.cap; rw [hp] at cp4; have HPL := Lib.hid hp; have CS4 := Lib.hid cs4; have CR4 := Lib.hid cr4; have ML4 := Lib.hid ml4; have HC := Lib.hid (HC.out.below b4); have HS := Lib.hid (HS.out.step b4); clear b4 hm4 g3 cs4 cr4 ml4 hp; have q4 := q3; clear q3))
  | (have _t := q4; go_at_call 20; clear _t; go_loud (refine (rclast_any A c n l _ HC.out HN.out HR.out (by omega)).mono ?_; rintro e w5 ⟨v5, M5, rfl, ml5, in5, o5, b5⟩; have HC := Lib.hid (HC.out.below b5); obtain ⟨A5, c5, hv5, cs5, -, -⟩ := o5.cs (fun u hu => HC.out.1 u (in5 u hu)); subst hv5; have cp5 := cs5.cap; have CS5 := Lib.hid cs5; have CR5 := Lib.hid (fun u hu => HR.out u (in5 u hu)); have ML5 := Lib.hid ml5; have CS4 := Lib.hid (CS4.out.below b5); have HS := Lib.hid (HS.out.step b5); clear ml5 in5 o5 b5 cs5; have q5 := q4; clear q4))
  | (have _t := q5; go_at_call 12; clear _t; go_loud (refine (rcsame_any A4 A5 c4 c5 p M5.length L M5 _ CS4.out CS5.out HPL.out rfl (fun v hv => ⟨Nat.le_trans (CR4.out v hv).2.2.1 (by omega), Nat.le_trans (CR4.out v hv).2.2.2 (by omega)⟩)).mono ?_; rintro e w6 ⟨rfl, b6⟩; rw [show sameCs L M5 = true from decide_eq_true (same_cl (fun v hv => ⟨CS4.out.1 v hv, CR4.out v hv⟩) (fun v hv => ⟨CS5.out.1 v hv, CR5.out v hv⟩) (ML4.out.trans ML5.out.symm))]; have CS4 := Lib.hid (CS4.out.below b6); have HS := Lib.hid (HS.out.step b6); clear b6; have q6 := q5; clear q5)))
 go_loopw [10, 9] (fun z z9 wr => ∃ (k : Nat) (v : Value), k ≤ p ∧ z = .int .i64 k ∧ v = z9 ∧ Below w6.heap.size w6 wr ∧ OwnC wr w6.heap.size v (rotV L t k)) (fun z _ _ => p - (intOf z).toNat)
 case atStart => exact ⟨0, _, by omega, rfl, rfl, Below.refl _ _, OwnC.nil _ _⟩
 case round =>
  obtain ⟨k, v, hk, rfl, rfl, hb, ho⟩ := hrel
  have HB := Lib.hid hb
  have HO := Lib.hid ho
  clear hb ho
  by_cases hlt : k < p
  ·
   have t1 : decide ((k : Int) < (p : Int)) = true := decide_eq_true (by omega)
   obtain ⟨r, hr⟩ : ∃ r, r = (k + t) % p := ⟨_, rfl⟩
   have hrp : r < p := by rw [hr]; exact Nat.mod_lt _ (by omega)
   have HRr := Lib.hid hr
   have e1 : IntKind.i64.wrap ((k : Int) + (t : Int)) = (k : Int) + (t : Int) := IntWalk.i64_in _ (by omega)
   have e2 : ((k : Int) + (t : Int)).tmod (p : Int) = (r : Int) := by
    rw [hr, ← Int.natCast_add, ← Int.ofNat_tmod]
   have e3 : IntKind.i64.wrap (r : Int) = (r : Int) := IntWalk.i64_in _ (by omega)
   have e4 : ((p : Int) == 0) = false := beq_eq_false_iff_ne.2 (by omega)
   have j1 : (0 : Int) ≤ (r : Int) := by omega
   have j2 : (r : Int) < (p : Int) := by omega
   obtain ⟨b, off, rfl, hbl, hcl⟩ := (CS4.out.below HB.out).at_ (by rw [HPL.out]; omega)
   obtain ⟨x, hx⟩ : ∃ x, x = cat L r := ⟨_, rfl⟩
   obtain ⟨f1, f2, f3, f4, f5⟩ := hcl r (by rw [HPL.out]; exact hrp)
   rw [← hx] at f1 f2 f3 f4 f5
   have HX := Lib.hid hx
   clear hr hcl hx
   go_wp2_with (at_builtin; go_loud (refine wpList_append_cell _ rfl _ _ rfl w6.heap.size _ (rotV L t k) x _ 1 rfl rfl (HO.out.alloc _) (cell_box _ x) (by rw [rotV_len]; omega) (by simp; have := HB.out.size; omega) ?_; intro v7 w7 ho7 hg7 hk7; have HO7 := Lib.hid ho7; have HG7 := Lib.hid hg7; clear ho7 hg7 hk7))
   go_roundw
   case rel =>
    refine ⟨k + 1, _, by omega, by go_num, rfl, (HB.out.alloc HB.out.size _).grown HG7.out (by simp; have := HB.out.size; omega) (fun q hq => (HO.out.lt q hq).1), ?_⟩
    rw [rotV_succ, HPL.out, ← HRr.out, ← HX.out]
    exact HO7.out
   case measure => simp [intOf]; omega
  ·
   obtain rfl : k = p := by omega
   have t1 : decide ((k : Int) < (k : Int)) = false := decide_eq_false (by omega)
   have HRO := Lib.hid (show ∀ u ∈ rotV L t k, u ∈ L from fun u hu => rotV_mem (by rw [HPL.out]; omega) hu)
   obtain ⟨Am, cm, hvm, csm, -, -⟩ := HO.out.cs (fun u hu => (CS4.out.below HB.out).1 u (HRO.out u hu))
   rw [rotV_len] at hvm
   subst hvm
   have hMM := (show (rotV L t k).length = k from rotV_len _ _ _)
   have hPM := (show lastF ((rotV L t k).map Cv.cl) = lastF (l.map Cv.cl) by
    have h1 := ML4.out
    have h2 := (rotV_perm L t)
    rw [HPL.out] at h2
    have h3 : (L.map Cv.cl).Perm ((rotV L t k).map Cv.cl) := (h2.map _).symm
    rw [h1] at h3
    rw [← lastF_perm (srt_unlike (lastF_srt _)) h3]
    exact lastF_self (lastF_srt _) fun c hc => ((lastF_spec _).2.2 c hc).1)
   obtain ⟨M, hM⟩ : ∃ M, M = rotV L t k := ⟨_, rfl⟩
   rw [← hM] at csm hMM hPM HRO
   have CSM := Lib.hid csm
   have HMM := Lib.hid hMM
   have HPM := Lib.hid hPM
   have cpm := csm.cap
   have HS := Lib.hid (HS.out.step HB.out)
   clear csm hMM hPM hM
   have q6 : True := trivial
   go_wp2_with (first
    | (have _t := q6; go_at_call 9; clear _t; go_loud (refine (cof_good Am cm k M _ CSM.out HMM.out (by omega) (fun v hv => CR4.out v (HRO.out v hv)) (by rw [HPM.out]; exact H9.out)).mono ?_; rintro e w8 ⟨A8, c8, qn8, q8, rfl, l8, n8, a8, u8, b8⟩; rw [HPM.out] at u8; have e8 := quadOf_one u8 HQ.out (fun _ _ => rfl); rw [e8] at l8 n8; obtain rfl := HQN.out.symm.trans l8; have HS := Lib.hid (((HS.out.step b8).addN n8).addB (.slice A8 qn c8)); have g3 := HS.out.getB (g := w3.heap.size) (v := .slice A3 qn c3) (by simp); clear l8 n8 a8 u8 b8 e8; have q7 := q6; clear q6))
    | (have _t := q7; go_at_call 11; clear _t; go_loud (refine (rsame_any A8 A3 c8 c3 qn qn q q _ (HS.out.getN (A := A8) (c := c8) (l := q) (by simp)) (HS.out.getN (A := A3) (c := c3) (l := q) (by simp)) HQN.out HQN.out).mono ?_; rintro e w9 ⟨rfl, b9⟩; rw [decide_eq_true (rfl : q = q)]; have HS := Lib.hid (HS.out.step b9); clear b9 g3; have g4 := HS.out.getB (g := w3.heap.size) (v := .slice A3 qn c3) (by simp); have q8' := q7; clear q7))
    | (have _t := q8'; go_at_call 21; clear _t; go_loud (refine (nrright_any A3 c3 qn q _ (HS.out.getN (A := A3) (c := c3) (l := q) (by simp)) HQN.out (by omega)).mono ?_; rintro e w10 ⟨rfl, b10⟩; rw [HQ.out.quad]; have HS := Lib.hid (HS.out.step b10); clear b10 g4; have g5 := HS.out.getB (g := w3.heap.size) (v := .slice A3 qn c3) (by simp); have q9 := q8'; clear q8'))
    | (have _t := q9; go_at_call 18; clear _t; go_loud (refine (count_any A3 c3 qn q _ (HS.out.getN (A := A3) (c := c3) (l := q) (by simp)) HQN.out HQ.out.good.1 (by omega)).mono ?_; rintro e w11 ⟨A11, c11, s11, r11, rfl, u11, k11, v11, b11⟩; have cp11 := u11.cap; have U11 := Lib.hid u11; have K11 := Lib.hid k11; have V11 := Lib.hid (show ival s11 r11 = (k : Int) by rw [v11, HCN.out]; have h1 := congrArg List.length ML4.out; rw [List.length_map, HPL.out] at h1; rw [← h1]); have HS := Lib.hid (HS.out.step b11); clear u11 k11 v11 b11 g5; have q10 := q9; clear q9))
    | (have _t := q10; go_at_call 22; clear _t; go_loud (refine (rbof_any (k : Int) _ (by omega) (by omega)).mono ?_; rintro e w12 ⟨A12, c12, s12, r12, rfl, u12, k12, v12, b12⟩; have cp12 := u12.cap; have U12 := Lib.hid u12; have K12 := Lib.hid k12; have V12 := Lib.hid v12; have U11 := Lib.hid (U11.out.below b12); have HS := Lib.hid (HS.out.step b12); clear u12 k12 v12 b12; have q11 := q10; clear q10))
    | (have _t := q11; go_at_call 17; clear _t; go_loud (refine (rbsame_any s11 s12 _ _ _ _ r11 r12 _ U11.out U12.out (by have h1 := p2_mono (show 10 ≤ 1330 by omega); have h2 : p2 10 = 1024 := (by decide); have := len_near K11.out V11.out (by omega) (by omega); omega)).mono ?_; rintro e w13 ⟨rfl, b13⟩; rw [show decide (s11 = s12 ∧ r11 = r12) = true from decide_eq_true (uniqI U11.out.1 U12.out.1 K11.out K12.out (V11.out.trans V12.out.symm))]; have HS := Lib.hid (HS.out.step b13); clear b13; have q12 := q11; clear q11)))
   go_ret
   exact ⟨rfl, HS.out.sn.1⟩
theorem cback_law (A : Option Addr) (c : Nat) (k : Int) (l : List Cv) (w : World) (h : Cs w A c l) (hk : 0 ≤ k ∧ k ≤ 255) :
  Calls Tryz.prog 5 #[.slice A l.length c, .int .u8 k] w fun e w' => e = .returned (.bool true) ∧ Below w.heap.size w w' := by
 obtain ⟨t, rfl⟩ : ∃ t : Nat, k = (t : Int) := ⟨k.toNat, by omega⟩
 cases hg : greatB l 40 with
 | true => exact cback_great A c _ t l w h rfl hg
 | false =>
  cases hok : l.all okC with
  | false => exact cback_bad A c _ t l w h rfl hg (.inl hok)
  | true =>
   by_cases h9 : leastF (lastF (l.map Cv.cl)) ≤ 1329
   ·
    exact cback_main A c _ t l w h rfl (by omega) hg hok h9
   ·
    exact cback_bad A c _ t l w h rfl hg (.inr (by omega))
end Go.Proofs.YtmfncapgikobkaaGreat
