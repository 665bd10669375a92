/-
  cells, the law's own: cell; the fixed fact.
  cells: the fixed fact.
  cells: how many; a list turned around; plain.
  canon: how long a quad is, plain.
  cells: place's list, quarter by quarter; how long it is; plain.
  the reference's Shl and Pow: their answers lie in new memory.
  cells, the reference's place: how memory stands.
-/
import Derived.Test.YtmfncapgikobkaaGreatGClRm
import Derived.Test.YtmfncapgikobkaaGreatGClRa
import Derived.Test.YtmfncapgikobkaaGreatGBigH
import Derived.Test.YtmfncapgikobkaaGreatGClSa
import Derived.Test.YtmfncapgikobkaaGreatClLi
import Derived.Test.YtmfncapgikobkaaGreatGClM
import Derived.Test.YtmfncapgikobkaaGreatGClVp
import Derived.Test.YtmfncapgikobkaaGreatGNcRV
import Derived.Test.YtmfncapgikobkaaGreatGNdsW
import Derived.Test.YtmfncapgikobkaaGreatGClLa

namespace Go.Proofs.YtmfncapgikobkaaGreat
set_option maxRecDepth 100000
set_option linter.unusedVariables false
set_option linter.unusedSimpArgs false
open Go.RowKit Nds Num
def RetCe (x y : Int) (s : Nat) (w : World) (e : Ending) (w' : World) : Prop :=
 ∃ u : Cv, e = .returned (cvv u) ∧ u.cl = ⟨x, y, s⟩ ∧ CvU w' u ∧ CvR u ∧ u.st = s ∧ Below w.heap.size w w'
set_option maxRecDepth 100000 in
set_option maxHeartbeats 3200000 in
theorem cell_any (x y : Int) (s : Nat) (w : World) (hs : s ≤ 255) (hx0 : -9223372036854775808 ≤ x) (hx1 : x ≤ 9223372036854775807) (hy0 : -9223372036854775808 ≤ y) (hy1 : y ≤ 9223372036854775807) :
  Calls Tryz.prog 24 #[.int .i64 x, .int .i64 y, .int .u8 s] w (RetCe x y s w) := by
 have hp0 := p2_mono (show 63 ≤ 1330 by omega)
 have hp1 : p2 63 = 9223372036854775808 := by decide
 have HMX := Lib.hid (show -p2 1330 ≤ x ∧ x ≤ p2 1330 from ⟨by omega, by omega⟩)
 have HMY := Lib.hid (show -p2 1330 ≤ y ∧ y ≤ p2 1330 from ⟨by omega, by omega⟩)
 obtain ⟨W, hW⟩ : ∃ W : World, W = w.alloc (.cells #[.bool false, .slice none 0 0, .bool false, .slice none 0 0, .int .u8 0] 47) := ⟨_, rfl⟩
 have hb : Below w.heap.size w W := by rw [hW]; exact (Below.refl _ w).alloc (Nat.le_refl _) _
 have HWL := Lib.hid (show w.heap.size < W.heap.size by rw [hW]; simp)
 have HB1 := Lib.hid (show W.heap[w.heap.size]? = some (.cells #[.bool false, .slice none 0 0, .bool false, .slice none 0 0, .int .u8 0] 47) by rw [hW]; exact heap_alloc_new w _)
 have HW := Lib.hid hW
 have HB := Lib.hid hb
 have q0 : True := trivial
 clear hp0 hp1 hW hb
 go_enter Tryz.func24, Tryz.ntmps24
 go_wp2_with (first
  | (have _t := q0; go_at_call 22; clear _t; go_loud (rw [← HW.out]; refine (rbof_any x _ hx0 hx1).mono ?_; rintro e w5 ⟨A5, c5, s5, r5, rfl, u5, k5, v5, b5⟩; have L5 := Lib.hid (len_near k5 v5 HMX.out.1 HMX.out.2); have hcap5 := u5.cap; have U5 := Lib.hid u5; have K5 := Lib.hid k5; have V5 := Lib.hid v5; have B5 := Lib.hid b5; clear u5 k5 v5 b5; have q1 := q0; clear q0))
  | (have _t := q1; go_at_call 22; clear _t; go_loud (refine (rbof_any y _ hy0 hy1).mono ?_; rintro e w6 ⟨A6, c6, s6, r6, rfl, u6, k6, v6, b6⟩; have L6 := Lib.hid (len_near k6 v6 HMY.out.1 HMY.out.2); have hcap6 := u6.cap; have U6 := Lib.hid u6; have K6 := Lib.hid k6; have V6 := Lib.hid v6; have U56 := Lib.hid (U5.out.below b6); have B6 := Lib.hid (B5.out.trans (b6.mono B5.out.size)); have Q6 := Lib.hid ((B6.out.block w.heap.size HWL.out).trans HB1.out); have z0 := cell_of_row w6 w.heap.size 0 _ _ (0, 0) Q6.out; have z1 := cell_of_row w6 w.heap.size 1 _ _ (0, 0) Q6.out; have z2 := cell_of_row w6 w.heap.size 2 _ _ (0, 0) Q6.out; have z3 := cell_of_row w6 w.heap.size 3 _ _ (0, 0) Q6.out; have z4 := cell_of_row w6 w.heap.size 4 _ _ (0, 0) Q6.out; have y0 := (show w6.frozen? ⟨w.heap.size, 0, none⟩ = false from frozen_of_row _ _ _ _ _ Q6.out); have y1 := (show w6.frozen? ⟨w.heap.size, 1, none⟩ = false from frozen_of_row _ _ _ _ _ Q6.out); have y2 := (show w6.frozen? ⟨w.heap.size, 2, none⟩ = false from frozen_of_row _ _ _ _ _ Q6.out); have y3 := (show w6.frozen? ⟨w.heap.size, 3, none⟩ = false from frozen_of_row _ _ _ _ _ Q6.out); have y4 := (show w6.frozen? ⟨w.heap.size, 4, none⟩ = false from frozen_of_row _ _ _ _ _ Q6.out); clear  u6 k6 v6 b6 q1)))
 have O6 : OwnC w6 w.heap.size (.slice (some ⟨w.heap.size, 0, none⟩) 1 1) [cv0] := ⟨rfl, .inr ⟨w.heap.size, 1, _, rfl, Nat.le_refl _, Q6.out, Nat.le_refl _, by simp [maxLen], rfl, rfl⟩⟩
 obtain ⟨u, hu⟩ : ∃ u : Cv, u = ⟨s5, A5, c5, r5, s6, A6, c6, r6, s⟩ := ⟨_, rfl⟩
 have OF := O6.put rfl (i := 0) (by omega) u
 have hG := setC_grown w6 w.heap.size 0 (.bool s5) (.slice A5 r5.length c5) (.bool s6) (.slice A6 r6.length c6) (.int .u8 s)
 rw [hu] at OF
 obtain ⟨Wf, hWf⟩ : ∃ V : World, V = ((((w6.setCell ⟨w.heap.size, 0, none⟩ (.bool s5)).setCell ⟨w.heap.size, 1, none⟩ (.slice A5 r5.length c5)).setCell ⟨w.heap.size, 2, none⟩ (.bool s6)).setCell ⟨w.heap.size, 3, none⟩ (.slice A6 r6.length c6)).setCell ⟨w.heap.size, 4, none⟩ (.int .u8 s) := ⟨_, rfl⟩
 rw [← hWf]
 have OF := (show OwnC Wf w.heap.size (.slice (some ⟨w.heap.size, 0, none⟩) 1 1) ([cv0].set 0 ⟨s5, A5, c5, r5, s6, A6, c6, r6, s⟩) by rw [hWf]; exact OF)
 have hG := (show w6.grownBy Wf (some w.heap.size) by rw [hWf]; exact hG)
 clear hWf z0 z1 z2 z3 z4 y0 y1 y2 y3 y4
 obtain ⟨A', c', e', -, -, -, h5⟩ := OF.shape
 cases e'
 obtain ⟨g', hg', -, -, hc, -⟩ := h5 _ rfl
 cases hg'
 obtain ⟨e0, e1, e2, e3, e4⟩ := hc 0 (by simp)
 have hlim := O6.no_limb rfl
 have hus : ∀ {A : Option Addr} {c : Nat} {xs : List Nat}, Us w6 A c xs → Us Wf A c xs := fun hu => us_kept hu (fun q h1 h3 => hG.block q h1 (fun e => h3 (Option.some.inj e))) hG.size (us_off hu hlim)
 refine bodyPost_ret (v := .agg #[.bool s5, .slice A5 r5.length c5, .bool s6, .slice A6 r6.length c6, .int .u8 s]) ?_ rfl ?_
 ·
  have e0 := (show Wf.cell? ⟨w.heap.size, 0, none⟩ = some (.bool s5) from e0)
  have e1 := (show Wf.cell? ⟨w.heap.size, 1, none⟩ = some (.slice A5 r5.length c5) from e1)
  have e2 := (show Wf.cell? ⟨w.heap.size, 2, none⟩ = some (.bool s6) from e2)
  have e3 := (show Wf.cell? ⟨w.heap.size, 3, none⟩ = some (.slice A6 r6.length c6) from e3)
  have e4 := (show Wf.cell? ⟨w.heap.size, 4, none⟩ = some (.int .u8 s) from e4)
  simp [results, Tryz.results24, go_sem, e0, e1, e2, e3, e4]
 ·
  refine ⟨⟨s5, A5, c5, r5, s6, A6, c6, r6, s⟩, rfl, ?_, ⟨hus U56.out, hus U6.out, hs⟩, ⟨K5.out, K6.out, by have := L5.out; dsimp only; omega, by have := L6.out; dsimp only; omega⟩, rfl, (HB.out.trans (B6.out.mono HB.out.size)).grown hG (Nat.le_trans HB.out.size B6.out.size) (fun q hq => by rw [← Option.some.inj hq]; exact Nat.le_refl _)⟩
  show (⟨ival s5 r5, ival s6 r6, (s : Int)⟩ : Cl) = ⟨x, y, s⟩
  rw [V5.out, V6.out]
/- The fixed fact's quads. -/
def two7 : List Nd := [⟨1, 1, 0, 0, 2⟩]
def far7 : List Nd := [⟨1, 0, 0, 0, 7⟩, ⟨2, 1, 0, 0, 0⟩, ⟨3, 0, 0, 0, 2⟩, ⟨4, 0, 3, 0, 0⟩]
theorem two7_cells : lastF [⟨0, 0, 2⟩, ⟨-1, -1, 1⟩] = cellsL two7 := by kernel_rfl
theorem far7_cells : lastF [⟨0, 0, 2⟩, ⟨5, -3, 7⟩, ⟨0, 0, 0⟩] = cellsL far7 := by kernel_rfl
theorem two7_self : OfL two7 two7.length = two7 := by kernel_rfl
theorem far7_self : OfL far7 far7.length = far7 := by kernel_rfl
theorem two7_least : leastF (lastF [⟨0, 0, 2⟩, ⟨-1, -1, 1⟩]) = 1 := by kernel_rfl
theorem far7_least : leastF (lastF [⟨0, 0, 2⟩, ⟨5, -3, 7⟩, ⟨0, 0, 0⟩]) = 4 := by kernel_rfl
theorem two7_loose : looseB two7 = true := by kernel_rfl
theorem far7_loose : looseB far7 = true := by kernel_rfl
theorem two7_quad {out : List Nd} (h : QuadOf (lastF [⟨0, 0, 2⟩, ⟨-1, -1, 1⟩]) out) : out = two7 := by
 have k := quadOf_self two7_loose
 rw [two7_self, ← two7_cells] at k
 exact quadOf_one h k fun _ _ => rfl
theorem far7_quad {out : List Nd} (h : QuadOf (lastF [⟨0, 0, 2⟩, ⟨5, -3, 7⟩, ⟨0, 0, 0⟩]) out) : out = far7 := by
 have k := quadOf_self far7_loose
 rw [far7_self, ← far7_cells] at k
 exact quadOf_one h k fun _ _ => rfl
theorem far7_list : cellsL far7 = [⟨5, -3, 7⟩] := by kernel_rfl
theorem two7_count : countT (den two7 two7.length) = 2 := by kernel_rfl
theorem far7_count : countT (den far7 far7.length) = 1 := by kernel_rfl
theorem cs_lit2 {w : World} {g : Nat} (u v : Cv) (h : w.heap[g]? = some (.cells #[.bool u.sx, .slice u.ax u.xs.length u.cx, .bool u.sy, .slice u.ay u.ys.length u.cy, .int .u8 u.st, .bool v.sx, .slice v.ax v.xs.length v.cx, .bool v.sy, .slice v.ay v.ys.length v.cy, .int .u8 v.st] 47)) (hu : CvU w u) (hv : CvU w v) : Cs w (some ⟨g, 0, none⟩) 2 [u, v] := by
 refine ⟨fun x hx => ?_, Nat.le_refl _, by simp [maxLen], fun _ => ⟨g, 0, rfl, (Array.getElem?_eq_some_iff.1 h).1, fun i hi => ?_⟩⟩
 ·
  simp only [List.mem_cons, List.not_mem_nil, or_false] at hx
  rcases hx with rfl | rfl
  ·
   exact hu
  ·
   exact hv
 ·
  match i, hi with
  | 0, _ => refine ⟨?_, ?_, ?_, ?_, ?_⟩ <;> (rw [cell_of_row _ _ _ _ _ _ h]; rfl)
  | 1, _ => refine ⟨?_, ?_, ?_, ?_, ?_⟩ <;> (rw [cell_of_row _ _ _ _ _ _ h]; rfl)
theorem cs_lit3 {w : World} {g : Nat} (u v t : Cv) (h : w.heap[g]? = some (.cells #[.bool u.sx, .slice u.ax u.xs.length u.cx, .bool u.sy, .slice u.ay u.ys.length u.cy, .int .u8 u.st, .bool v.sx, .slice v.ax v.xs.length v.cx, .bool v.sy, .slice v.ay v.ys.length v.cy, .int .u8 v.st, .bool t.sx, .slice t.ax t.xs.length t.cx, .bool t.sy, .slice t.ay t.ys.length t.cy, .int .u8 t.st] 47)) (hu : CvU w u) (hv : CvU w v) (ht : CvU w t) : Cs w (some ⟨g, 0, none⟩) 3 [u, v, t] := by
 refine ⟨fun x hx => ?_, Nat.le_refl _, by simp [maxLen], fun _ => ⟨g, 0, rfl, (Array.getElem?_eq_some_iff.1 h).1, fun i hi => ?_⟩⟩
 ·
  simp only [List.mem_cons, List.not_mem_nil, or_false] at hx
  rcases hx with rfl | rfl | rfl
  ·
   exact hu
  ·
   exact hv
  ·
   exact ht
 ·
  match i, hi with
  | 0, _ => refine ⟨?_, ?_, ?_, ?_, ?_⟩ <;> (rw [cell_of_row _ _ _ _ _ _ h]; rfl)
  | 1, _ => refine ⟨?_, ?_, ?_, ?_, ?_⟩ <;> (rw [cell_of_row _ _ _ _ _ _ h]; rfl)
  | 2, _ => refine ⟨?_, ?_, ?_, ?_, ?_⟩ <;> (rw [cell_of_row _ _ _ _ _ _ h]; rfl)
theorem cs_lit1 {w : World} {g : Nat} (u : Cv) (h : w.heap[g]? = some (.cells #[.bool u.sx, .slice u.ax u.xs.length u.cx, .bool u.sy, .slice u.ay u.ys.length u.cy, .int .u8 u.st] 47)) (hu : CvU w u) : Cs w (some ⟨g, 0, none⟩) 1 [u] := by
 refine ⟨fun x hx => ?_, Nat.le_refl _, by simp [maxLen], fun _ => ⟨g, 0, rfl, (Array.getElem?_eq_some_iff.1 h).1, fun i hi => ?_⟩⟩
 ·
  rw [List.mem_singleton.1 hx]
  exact hu
 ·
  match i, hi with
  | 0, _ => refine ⟨?_, ?_, ?_, ?_, ?_⟩ <;> (rw [cell_of_row _ _ _ _ _ _ h]; rfl)
theorem canon_rightC {s : Bool} {xs : List Nat} (h : CanonI s xs) : rightI s xs = true := by
 unfold rightI
 rw [Bool.and_eq_true]
 constructor
 ·
  have h1 := h.1
  unfold Canon at h1
  rw [List.getLast?_eq_getElem?] at h1
  unfold rightB
  rw [Bool.or_eq_true]
  rcases Nat.eq_zero_or_pos xs.length with h0 | h0
  ·
   exact .inl (by rw [h0]; rfl)
  ·
   right
   rw [bne_iff_ne]
   rw [List.getElem?_eq_getElem (by omega)] at h1 ⊢
   exact fun e => h1 (by rw [← e]; rfl)
 ·
  cases s
  ·
   rfl
  ·
   have := h.2 rfl
   simp
   exact List.length_pos_iff.2 this
theorem ok_all {l : List Cv} (h : ∀ v ∈ l, CvR v) : l.all okC = true := List.all_eq_true.2 fun v hv => by
 unfold okC
 rw [canon_rightC (h v hv).1, canon_rightC (h v hv).2.1]
 rfl
theorem cof_known (A : Option Addr) (c n : Nat) (l : List Cv) (q : List Nd) (qn : Nat) (w : World) (h : Cs w A c l) (hn : l.length = n) (hn9 : n ≤ 600) (hR : ∀ v ∈ l, CvR v) (h9 : leastF (lastF (l.map Cv.cl)) ≤ 1329) (hq : ∀ out, QuadOf (lastF (l.map Cv.cl)) out → out = q) (hqn : q.length = qn) :
  Calls Tryz.prog 9 #[.slice A n c] w fun e w' => ∃ A' c', e = .returned (.tuple #[.agg #[.slice A' qn c'], .int .i64 0]) ∧ Ns w' A' c' q ∧ (A' = none → c' = 0) ∧ Below w.heap.size w w' := by
 refine (cof_any A c n l w h hn hn9 fun v hv => ⟨(hR v hv).2.2.1, (hR v hv).2.2.2⟩).mono ?_
 rintro e w' ⟨v', out, er, rfl, ho, hb, hof⟩
 obtain ⟨rfl, hqq⟩ := hof.quad (ok_all hR) (fun v hv => (h.1 v hv).2.2) h9
 obtain rfl := hq out hqq
 subst hqn
 obtain ⟨A', c', hv', ns, hA', -⟩ := ho.shape
 exact ⟨A', c', by rw [hv'], ns, hA', hb⟩
end Go.Proofs.YtmfncapgikobkaaGreat

namespace Go.Proofs.YtmfncapgikobkaaGreat
set_option maxRecDepth 100000
set_option linter.unusedVariables false
set_option linter.unusedSimpArgs false
open Go.RowKit Nds Num
theorem of_two {A : Option Addr} {c : Nat} {u v : Cv} {w : World} (h : Cs w A c [u, v]) (m1 : u.cl = ⟨0, 0, (2 : Nat)⟩) (m2 : v.cl = ⟨-1, -1, (1 : Nat)⟩) (r1 : CvR u) (r2 : CvR v) :
  Calls Tryz.prog 9 #[.slice A 2 c] w fun e w' => ∃ A' c', e = .returned (.tuple #[.agg #[.slice A' 1 c'], .int .i64 0]) ∧ Ns w' A' c' two7 ∧ (A' = none → c' = 0) ∧ Below w.heap.size w w' := by
 have hm : [u, v].map Cv.cl = [⟨0, 0, 2⟩, ⟨-1, -1, 1⟩] := by
  rw [List.map_cons, List.map_cons, m1, m2]
  rfl
 refine cof_known A c 2 [u, v] two7 1 w h rfl (by omega) (fun x hx => ?_) (by rw [hm, two7_least]; omega) (fun out ho => two7_quad (by rw [hm] at ho; exact ho)) rfl
 simp only [List.mem_cons, List.not_mem_nil, or_false] at hx
 rcases hx with rfl | rfl
 ·
  exact r1
 ·
  exact r2
theorem of_far {A : Option Addr} {c : Nat} {u v t : Cv} {w : World} (h : Cs w A c [u, v, t]) (m1 : u.cl = ⟨0, 0, (2 : Nat)⟩) (m2 : v.cl = ⟨5, -3, (7 : Nat)⟩) (m3 : t.cl = ⟨0, 0, (0 : Nat)⟩) (r1 : CvR u) (r2 : CvR v) (r3 : CvR t) :
  Calls Tryz.prog 9 #[.slice A 3 c] w fun e w' => ∃ A' c', e = .returned (.tuple #[.agg #[.slice A' 4 c'], .int .i64 0]) ∧ Ns w' A' c' far7 ∧ (A' = none → c' = 0) ∧ Below w.heap.size w w' := by
 have hm : [u, v, t].map Cv.cl = [⟨0, 0, 2⟩, ⟨5, -3, 7⟩, ⟨0, 0, 0⟩] := by
  rw [List.map_cons, List.map_cons, List.map_cons, m1, m2, m3]
  rfl
 refine cof_known A c 3 [u, v, t] far7 4 w h rfl (by omega) (fun x hx => ?_) (by rw [hm, far7_least]; omega) (fun out ho => far7_quad (by rw [hm] at ho; exact ho)) rfl
 simp only [List.mem_cons, List.not_mem_nil, or_false] at hx
 rcases hx with rfl | rfl | rfl
 ·
  exact r1
 ·
  exact r2
 ·
  exact r3
theorem same_cl {w w' : World} : ∀ {l m : List Cv}, (∀ v ∈ l, CvU w v ∧ CvR v) → (∀ v ∈ m, CvU w' v ∧ CvR v) → l.map Cv.cl = m.map Cv.cl → l.map Cv.kk = m.map Cv.kk
 | [], [], _, _, _ => rfl
 | [], _ :: _, _, _, h => by cases h
 | _ :: _, [], _, _, h => by cases h
 | u :: l, v :: m, h1, h2, h => by
  rw [List.map_cons, List.map_cons] at h ⊢
  obtain ⟨e1, e2⟩ := List.cons.inj h
  obtain ⟨hu, ru⟩ := h1 u (by simp)
  obtain ⟨hv, rv⟩ := h2 v (by simp)
  rw [same_cl (fun x hx => h1 x (by simp [hx])) (fun x hx => h2 x (by simp [hx])) e2]
  have ex := congrArg Cl.x e1
  have ey := congrArg Cl.y e1
  have es := congrArg Cl.s e1
  obtain ⟨a1, a2⟩ := uniqI hu.1.1 hv.1.1 ru.1 rv.1 ex
  obtain ⟨b1, b2⟩ := uniqI hu.2.1.1 hv.2.1.1 ru.2.1 rv.2.1 ey
  have c1 : u.st = v.st := by
   have : ((u.st : Nat) : Int) = ((v.st : Nat) : Int) := es
   omega
  have : u.kk = v.kk := by
   unfold Cv.kk
   rw [a1, a2, b1, b2, c1]
  rw [this]
theorem two_near : -p2 1330 ≤ 2 ∧ 2 ≤ p2 1330 := by
 have h := p2_mono (show 1 ≤ 1330 by omega)
 have h1 : p2 1 = 2 := by decide
 omega
def bad7 : Cv := ⟨true, none, 0, [], false, none, 0, [], 0⟩
theorem bad7_ok : [bad7].all okC = false := by kernel_rfl
theorem of_bad {A : Option Addr} {c : Nat} {w : World} (h : Cs w A c [bad7]) :
  Calls Tryz.prog 9 #[.slice A 1 c] w fun e w' => ∃ A' c', e = .returned (.tuple #[.agg #[.slice A' 0 c'], .int .i64 1]) ∧ Below w.heap.size w w' := by
 refine (cof_any A c 1 [bad7] w h rfl (by omega) fun v hv => by rw [List.mem_singleton.1 hv]; exact ⟨Nat.zero_le _, Nat.zero_le _⟩).mono ?_
 rintro e w' ⟨v', out, er, rfl, ho, hb, hof⟩
 obtain ⟨rfl, rfl⟩ := hof.1 bad7_ok
 obtain ⟨A', c', hv', -, -, -⟩ := ho.shape
 exact ⟨A', c', by rw [hv']; rfl, hb⟩
set_option maxRecDepth 100000 in
set_option maxHeartbeats 6400000 in
theorem alive7_any (w : World) : Calls Tryz.prog 7 #[] w fun e w' => e = .returned (.bool true) ∧ Below w.heap.size w w' := by
 have q0 : True := trivial
 go_enter Tryz.func7, Tryz.ntmps7
 go_wp2_with (first
  | (have _t := q0; go_at_call 24; clear _t; go_loud (refine (cell_any 0 0 2 _ (by omega) (by omega) (by omega) (by omega) (by omega)).mono ?_; rintro e w1 ⟨u1, rfl, m1, v1, r1, st1, b1⟩; have p1 := v1.1.cap; have p2 := v1.2.1.cap; have U1 := Lib.hid v1; have R1 := Lib.hid r1; have M1 := Lib.hid m1; have S1 := Lib.hid st1; have B1 := Lib.hid b1; clear v1 r1 m1 st1 b1; have q1 := q0; clear q0))
  | (have _t := q1; go_at_call 24; clear _t; go_loud (refine (cell_any (-1) (-1) 1 _ (by omega) (by omega) (by omega) (by omega) (by omega)).mono ?_; rintro e w2 ⟨u2, rfl, m2, v2, r2, st2, b2⟩; have p3 := v2.1.cap; have p4 := v2.2.1.cap; have U2 := Lib.hid v2; have R2 := Lib.hid r2; have M2 := Lib.hid m2; have S2 := Lib.hid st2; have B2 := Lib.hid (B1.out.trans (b2.mono B1.out.size)); have U12 := Lib.hid (U1.out.below b2); clear v2 r2 m2 st2 b2; have q2 := q1; clear q1))
  | (have _t := q2; go_at_call 9; clear _t; go_loud (have hal := (Below.refl w2.heap.size w2).alloc (Nat.le_refl _) (.cells #[.bool u1.sx, .slice u1.ax u1.xs.length u1.cx, .bool u1.sy, .slice u1.ay u1.ys.length u1.cy, .int .u8 u1.st, .bool u2.sx, .slice u2.ax u2.xs.length u2.cx, .bool u2.sy, .slice u2.ay u2.ys.length u2.cy, .int .u8 u2.st] 47); refine (of_two (cs_lit2 u1 u2 (heap_alloc_new w2 _) (U12.out.below hal) (U2.out.below hal)) M1.out M2.out R1.out R2.out).mono ?_; rintro e w3 ⟨A3, c3, rfl, n3, -, b3⟩; have HS := Lib.hid (((Al.start w).step (B2.out.trans ((hal.trans (b3.mono hal.size)).mono B2.out.size))).addN n3 |>.addB (.slice A3 1 c3)); clear n3 b3 hal; have q3 := q2; clear q2))
  | (have _t := q3; go_at_call 24; clear _t; go_loud (refine (cell_any 0 0 2 _ (by omega) (by omega) (by omega) (by omega) (by omega)).mono ?_; rintro e w4 ⟨u4, rfl, m4, v4, r4, st4, b4⟩; have p4 := v4.1.cap; have p_4 := v4.2.1.cap; have U4 := Lib.hid v4; have R4 := Lib.hid r4; have M4 := Lib.hid m4; have HS := Lib.hid (HS.out.step b4); clear v4 r4 m4 st4 b4; have q4 := q3; clear q3))
  | (have _t := q4; go_at_call 24; clear _t; go_loud (refine (cell_any 5 (-3) 7 _ (by omega) (by omega) (by omega) (by omega) (by omega)).mono ?_; rintro e w5 ⟨u5, rfl, m5, v5, r5, st5, b5⟩; have p5 := v5.1.cap; have p_5 := v5.2.1.cap; have U5 := Lib.hid v5; have R5 := Lib.hid r5; have M5 := Lib.hid m5; have HS := Lib.hid (HS.out.step b5); have U4 := Lib.hid (U4.out.below b5); clear v5 r5 m5 st5 b5; have q5 := q4; clear q4))
  | (have _t := q5; go_at_call 24; clear _t; go_loud (refine (cell_any 0 0 0 _ (by omega) (by omega) (by omega) (by omega) (by omega)).mono ?_; rintro e w6 ⟨u6, rfl, m6, v6, r6, st6, b6⟩; have p6 := v6.1.cap; have p_6 := v6.2.1.cap; have U6 := Lib.hid v6; have R6 := Lib.hid r6; have M6 := Lib.hid m6; have HS := Lib.hid (HS.out.step b6); have U4 := Lib.hid (U4.out.below b6); have U5 := Lib.hid (U5.out.below b6); clear v6 r6 m6 st6 b6; have q6 := q5; clear q5))
  | (have _t := q6; go_at_call 9; clear _t; go_loud (have hal := (Below.refl w6.heap.size w6).alloc (Nat.le_refl _) (.cells #[.bool u4.sx, .slice u4.ax u4.xs.length u4.cx, .bool u4.sy, .slice u4.ay u4.ys.length u4.cy, .int .u8 u4.st, .bool u5.sx, .slice u5.ax u5.xs.length u5.cx, .bool u5.sy, .slice u5.ay u5.ys.length u5.cy, .int .u8 u5.st, .bool u6.sx, .slice u6.ax u6.xs.length u6.cx, .bool u6.sy, .slice u6.ay u6.ys.length u6.cy, .int .u8 u6.st] 47); refine (of_far (cs_lit3 u4 u5 u6 (heap_alloc_new w6 _) (U4.out.below hal) (U5.out.below hal) (U6.out.below hal)) M4.out M5.out M6.out R4.out R5.out R6.out).mono ?_; rintro e w7 ⟨A7, c7, rfl, n7, -, b7⟩; have HS := Lib.hid (((HS.out.step (hal.trans (b7.mono hal.size))).addN n7).addB (.slice A7 4 c7)); clear n7 b7 hal; have q7 := q6; clear q6))
  | (have _t := q7; go_at_call 9; clear _t; go_loud (refine (of_bad (cs_lit1 bad7 (by have h := heap_alloc_new (w7.alloc (.cells #[.slice A7 4 c7] 27)) (.cells #[.bool true, .slice none 0 0, .bool false, .slice none 0 0, .int .u8 0] 47); rw [show (w7.alloc (.cells #[.slice A7 4 c7] 27)).heap.size = w7.heap.size + 1 by simp] at h; exact h) ⟨Us.nil _, Us.nil _, Nat.zero_le _⟩)).mono ?_; rintro e w8 ⟨A8, c8, rfl, b8⟩; have HS := Lib.hid ((((HS.out.alloc _).step b8)).addB (.slice A8 0 c8)); have k1 := HS.out.getB (g := w7.heap.size) (v := .slice A7 4 c7) (by simp); clear b8; have q8 := q7; clear q7))
  | (have _t := q8; go_at_call 15; clear _t; go_loud (refine (list_any A7 c7 4 far7 1 _ (HS.out.getN (A := A7) (c := c7) (by simp)) rfl far7_loose (by omega) (by omega) (by omega)).mono ?_; rintro e w9 ⟨b9, hm9⟩; obtain ⟨A9, c9, L9, rfl, cs9, cr9, ml9⟩ := (hm9.resolve_left (fun e => by have h1 := e.1; rw [far7_count] at h1; omega)).2; have HS := Lib.hid (HS.out.step b9); rw [far7_list] at ml9; have CS9 := Lib.hid cs9; have CR9 := Lib.hid cr9; have ML9 := Lib.hid ml9; have k2 := HS.out.getB (g := w3.heap.size) (v := .slice A3 1 c3) (by simp); clear b9 hm9 cs9 cr9 ml9 k1; have q9 := q8; clear q8))
  | (have _t := q9; go_at_call 15; clear _t; go_loud (refine (list_any A3 c3 1 two7 1 _ (HS.out.getN (A := A3) (c := c3) (by simp)) rfl two7_loose (by omega) (by omega) (by omega)).mono ?_; rintro e w10 ⟨b10, hm10⟩; obtain ⟨-, rfl⟩ := hm10.resolve_right (fun e => by have h1 := e.1; rw [two7_count] at h1; omega); have HS := Lib.hid (HS.out.step b10); have CS9 := Lib.hid (CS9.out.below b10); have k3 := HS.out.getB (g := w3.heap.size) (v := .slice A3 1 c3) (by simp); clear b10 hm10 k2; have q10 := q9; clear q9))
  | (have _t := q10; go_at_call 11; clear _t; go_loud (refine (rsame_any _ _ _ _ 1 1 two7 [⟨1, 1, 0, 0, 2⟩] _ ((HS.out.alloc _).getN (A := A3) (c := c3) (by simp)) (ns_lit1 w10 w10.heap.size ⟨1, 1, 0, 0, 2⟩ (by refine ⟨⟨?_, ?_⟩, ⟨?_, ?_⟩, ⟨?_, ?_⟩, ⟨?_, ?_⟩, ⟨?_, ?_⟩⟩ <;> simp) rfl) rfl rfl).mono ?_; rintro e w11 ⟨rfl, b11⟩; rw [show decide (two7 = [⟨1, 1, 0, 0, 2⟩]) = true from by kernel_rfl]; have CS9 := Lib.hid ((CS9.out.below ((Below.refl _ _).alloc (Nat.le_refl _) _)).below b11); have HS := Lib.hid ((HS.out.alloc _).step b11); clear b11 k3; have q11 := q10; clear q10))
  | (have _t := q11; go_at_call 24; clear _t; go_loud (refine (cell_any 5 (-3) 7 _ (by omega) (by omega) (by omega) (by omega) (by omega)).mono ?_; rintro e w12 ⟨u7, rfl, m7, v7, r7, st7, b12⟩; have p7 := v7.1.cap; have p_7 := v7.2.1.cap; have U7 := Lib.hid v7; have R7 := Lib.hid r7; have M7 := Lib.hid m7; have HS := Lib.hid (HS.out.step b12); have CS9 := Lib.hid (CS9.out.below b12); clear v7 r7 m7 st7 b12; have q12 := q11; clear q11))
  | (have _t := q12; go_at_call 12; clear _t; go_loud (have hal := (Below.refl w12.heap.size w12).alloc (Nat.le_refl _) (.cells #[.bool u7.sx, .slice u7.ax u7.xs.length u7.cx, .bool u7.sy, .slice u7.ay u7.ys.length u7.cy, .int .u8 u7.st] 47); refine (rcsame_any A9 (some ⟨w12.heap.size, 0, none⟩) c9 1 L9.length 1 L9 [u7] _ (CS9.out.below hal) (cs_lit1 u7 (heap_alloc_new w12 _) (U7.out.below hal)) rfl rfl (fun v hv => ⟨Nat.le_trans (CR9.out v hv).2.2.1 (by omega), Nat.le_trans (CR9.out v hv).2.2.2 (by omega)⟩)).mono ?_; rintro e w13 ⟨rfl, b13⟩; rw [show sameCs L9 [u7] = true from decide_eq_true (same_cl (fun v hv => ⟨CS9.out.1 v hv, CR9.out v hv⟩) (fun v hv => by rw [List.mem_singleton.1 hv]; exact ⟨U7.out, R7.out⟩) (by rw [ML9.out, List.map_singleton, M7.out]; rfl))]; have HS := Lib.hid ((HS.out.alloc _).step b13); have k4 := HS.out.getB (g := w3.heap.size) (v := .slice A3 1 c3) (by simp); clear b13 hal; have q13 := q12; clear q12))
  | (have _t := q13; go_at_call 18; clear _t; go_loud (refine (count_any A3 c3 1 two7 _ (HS.out.getN (A := A3) (c := c3) (by simp)) rfl two7_loose (by omega)).mono ?_; rintro e w14 ⟨A14, c14, s14, r14, rfl, u14, k14, v14, b14⟩; have cp14 := u14.cap; have U14 := Lib.hid u14; have K14 := Lib.hid k14; have V14 := Lib.hid (show ival s14 r14 = 2 by rw [v14]; exact congrArg Int.ofNat two7_count); have HS := Lib.hid (HS.out.step b14); clear u14 k14 v14 b14 k4; have q14 := q13; clear q13))
  | (have _t := q14; go_at_call 22; clear _t; go_loud (refine (rbof_any 2 _ (by omega) (by omega)).mono ?_; rintro e w15 ⟨A15, c15, s15, r15, rfl, u15, k15, v15, b15⟩; have cp15 := u15.cap; have U15 := Lib.hid u15; have K15 := Lib.hid k15; have V15 := Lib.hid v15; have U14 := Lib.hid (U14.out.below b15); have HS := Lib.hid (HS.out.step b15); clear u15 k15 v15 b15; have q15 := q14; clear q14))
  | (have _t := q15; go_at_call 17; clear _t; go_loud (refine (rbsame_any s14 s15 _ _ _ _ r14 r15 _ U14.out U15.out (by have := len_near K14.out V14.out two_near.1 two_near.2; omega)).mono ?_; rintro e w16 ⟨rfl, b16⟩; rw [show decide (s14 = s15 ∧ r14 = r15) = true from decide_eq_true (uniqI U14.out.1 U15.out.1 K14.out K15.out (V14.out.trans V15.out.symm))]; have HS := Lib.hid (HS.out.step b16); have k5 := HS.out.getB (g := w7.heap.size) (v := .slice A7 4 c7) (by simp); clear b16; have q16 := q15; clear q15))
  | (have _t := q16; go_at_call 14; clear _t; go_loud (refine (rlevel_any A7 c7 4 far7 _ (HS.out.getN (A := A7) (c := c7) (by simp)) rfl).mono ?_; rintro e w17 ⟨rfl, b17⟩; rw [show levelZ far7 = 4 from by kernel_rfl]; have HS := Lib.hid (HS.out.step b17); clear b17 k5; have q17 := q16; clear q16)))
 go_ret
 exact ⟨rfl, HS.out.sn.1⟩
end Go.Proofs.YtmfncapgikobkaaGreat

namespace Go.Proofs.YtmfncapgikobkaaGreat
set_option maxRecDepth 100000
set_option linter.unusedVariables false
set_option linter.unusedSimpArgs false
open Nds
theorem insC_len : ∀ (l : List Cl) (c : Cl), (insC l c).length ≤ l.length + 1
 | [], c => Nat.le_refl _
 | a :: l, c => by
  have h := insC_len l c
  unfold insC
  split
  ·
   rw [List.length_cons, List.length_cons]
   omega
  ·
   split
   ·
    rw [List.length_cons, List.length_cons]
    omega
   ·
    rw [List.length_cons, List.length_cons]
    omega
theorem insF_len : ∀ (l m : List Cl), (l.foldl insC m).length ≤ m.length + l.length
 | [], m => Nat.le_refl _
 | c :: l, m => by
  have h := insF_len l (insC m c)
  have h2 := insC_len m c
  rw [List.foldl_cons, List.length_cons]
  omega
theorem lastF_le (l : List Cl) : (lastF l).length ≤ l.length := by
 unfold lastF insAll
 have h := insF_len l []
 have h2 := List.length_filter_le (fun c : Cl => c.s != 0) (l.foldl insC [])
 simp only [List.length_nil, Nat.zero_add] at h
 exact Nat.le_trans h2 h
theorem count_pos : ∀ (t : Tr) (n : Nat), wfT (n : Int) t → t ≠ .e → 1 ≤ countT t
 | .e, _, _, h => absurd rfl h
 | .s k, _, _, _ => Nat.le_refl 1
 | .n v a b c d, n, h, _ => by
  have hv := h.1
  obtain ⟨m, rfl, hv2, ha, hb, hc, hd, _⟩ := wf_n h
  obtain ⟨i, hi, hne⟩ := wf_all h
  show 1 ≤ countT a + countT b + countT c + countT d
  match i, hi with
  | 0, _ => have := count_pos a m ha hne; omega
  | 1, _ => have := count_pos b m hb hne; omega
  | 2, _ => have := count_pos c m hc hne; omega
  | 3, _ => have := count_pos d m hd hne; omega
theorem add_le (out : List Nd) (x : Nd) : (add out x).1.length ≤ out.length + 1 := by
 unfold add
 split
 ·
  simp
 ·
  exact Nat.le_succ _
theorem enc_cnt : ∀ (t : Tr) (n : Nat) (out : List Nd), wfT (n : Int) t → (enc t out).1.length ≤ out.length + n * countT t
 | .e, n, out, _ => Nat.le_add_right _ _
 | .s k, n, out, _ => Nat.le_add_right _ _
 | .n v a b c d, n, out, h => by
  have hp : 1 ≤ countT a + countT b + countT c + countT d := count_pos (.n v a b c d) n h (by simp)
  obtain ⟨m, rfl, hv2, ha, hb, hc, hd, _⟩ := wf_n h
  have h0 := enc_cnt a m out ha
  have h1 := enc_cnt b m (outK (Tr.n v a b c d).q out 1) hb
  have h2 := enc_cnt c m (outK (Tr.n v a b c d).q out 2) hc
  have h3 := enc_cnt d m (outK (Tr.n v a b c d).q out 3) hd
  have h4 := add_le (outK (Tr.n v a b c d).q out 4) (topN (Tr.n v a b c d).q out v)
  have e1 : (outK (Tr.n v a b c d).q out 1).length = (enc a out).1.length := rfl
  have e2 : (outK (Tr.n v a b c d).q out 2).length = (enc b (outK (Tr.n v a b c d).q out 1)).1.length := rfl
  have e3 : (outK (Tr.n v a b c d).q out 3).length = (enc c (outK (Tr.n v a b c d).q out 2)).1.length := rfl
  have e4 : (outK (Tr.n v a b c d).q out 4).length = (enc d (outK (Tr.n v a b c d).q out 3)).1.length := rfl
  rw [enc_n]
  show (add (outK (Tr.n v a b c d).q out 4) (topN (Tr.n v a b c d).q out v)).1.length ≤ out.length + (m + 1) * (countT a + countT b + countT c + countT d)
  rw [Nat.add_mul, Nat.one_mul, Nat.mul_add, Nat.mul_add, Nat.mul_add]
  omega
theorem QuadOf.lenF {X : List Cl} {out : List Nd} (h : QuadOf (lastF X) out) : countT (Nds.den out out.length) = (lastF X).length ∧ out.length ≤ 1329 * (lastF X).length := by
 have h1 := cells_len h.good.1
 rw [h.cells (lastF_srt X) fun c hc => ((lastF_spec X).2.2 c hc).1] at h1
 refine ⟨h1.symm, ?_⟩
 obtain ⟨t, n, w1, w2, w3, rfl, w5⟩ := h
 by_cases he : t = .e
 ·
  subst he
  exact Nat.zero_le _
 ·
  obtain ⟨_, _, hd⟩ := enc_root w1 he w2
  rw [hd] at h1
  have h2 := enc_cnt t n [] w1
  rw [h1]
  have hn : n ≤ 1329 := by
   cases t with
   | e => exact absurd rfl he
   | s k => exact absurd rfl (w2 k)
   | n v a b c d =>
    have := w1.1
    have := w1.2.2.1
    omega
  have h3 := Nat.mul_le_mul_right (countT t) hn
  rw [List.length_nil, Nat.zero_add] at h2
  exact Nat.le_trans h2 h3
end Go.Proofs.YtmfncapgikobkaaGreat

namespace Go.Proofs.YtmfncapgikobkaaGreat
set_option maxRecDepth 100000
set_option linter.unusedVariables false
set_option linter.unusedSimpArgs false
open Go.RowKit Nds
theorem ss_end {l : List Nd} {t : Tr} : ∀ (m : Nat) (cur : List Nd) (p : Nat), (at_ cur p).lv ≤ m → SS l t cur p → ∃ cur' p', SS l t cur' p' ∧ holT (den cur' (p' + 1)) = false := by
 intro m
 induction m with
 | zero =>
  intro cur p hm h
  have := fit_lv (loose_fit h.1 h.2.1)
  omega
 | succ m ih =>
  intro cur p hm h
  cases hh : holT (den cur (p + 1)) with
  | false => exact ⟨cur, p, h, hh⟩
  | true =>
   refine ih _ _ ?_ (h.next hh)
   rw [at_last]
   show (at_ cur p).lv - 1 ≤ _
   omega
theorem ofL_len {l : List Nd} (hl : looseB l = true) {n : Nat} (hn : n ≤ l.length) : (OfL l n).length ≤ l.length + 1328 := by
 cases n with
 | zero =>
  unfold OfL
  rw [den_zero, shr_e]
  exact Nat.zero_le _
 | succ p =>
  by_cases he : den l (p + 1) = .e
  ·
   unfold OfL
   rw [he, shr_e]
   exact Nat.zero_le _
  ·
   have hs := SS.start hl (p := p) (by omega) he
   have hv := fit_lv (loose_fit hl (i := p) (by omega))
   obtain ⟨cur, q, h1, h2⟩ := ss_end 1329 l p hv.2 hs
   have h3 := h1.len
   have h4 := inv_enc h1.1 (q + 1) [] (by have := h1.2.1; omega) (inv_nil cur)
   have h5 := h4.len
   have h6 : den cur (q + 1) = shrT (den l (p + 1)) := by rw [← h1.2.2.2.1, shr_done h2]
   rw [h6] at h5
   exact Nat.le_trans h5 h3
theorem ofQ_len (l : List Nd) (k : Int) : (ofQ l k).length ≤ l.length + 1328 := by
 unfold ofQ
 split
 ·
  rename_i h
  unfold okB at h
  rw [Bool.and_eq_true, decide_eq_true_iff] at h
  exact ofL_len h.1 (by omega)
 ·
  exact Nat.zero_le _
end Go.Proofs.YtmfncapgikobkaaGreat

namespace Go.Proofs.YtmfncapgikobkaaGreat
set_option maxRecDepth 100000
set_option linter.unusedVariables false
set_option linter.unusedSimpArgs false
open Nds
def outP (m : Nat) (out : List Nd) (X Y : Int) (L : List Cl) : Nat → List Nd
 | 0 => out
 | k + 1 => (placeF m (outP m out X Y L k) (X + offI (p2 m) k) (Y + offJ (p2 m) k) (L.filter (sqB (X + offI (p2 m) k) (Y + offJ (p2 m) k) (p2 m)))).1
def kidP (m : Nat) (out : List Nd) (X Y : Int) (L : List Cl) (k : Nat) : Int :=
 (placeF m (outP m out X Y L k) (X + offI (p2 m) k) (Y + offJ (p2 m) k) (L.filter (sqB (X + offI (p2 m) k) (Y + offJ (p2 m) k) (p2 m)))).2
def topP (m : Nat) (out : List Nd) (X Y : Int) (L : List Cl) : Nd := ⟨(m : Int) + 1, kidP m out X Y L 0, kidP m out X Y L 1, kidP m out X Y L 2, kidP m out X Y L 3⟩
theorem topP_kid (m : Nat) (out : List Nd) (X Y : Int) (L : List Cl) {k : Nat} (hk : k < 4) : (topP m out X Y L).kid k = kidP m out X Y L k := by
 match k, hk with
 | 0, _ => rfl
 | 1, _ => rfl
 | 2, _ => rfl
 | 3, _ => rfl
theorem placeF_nil (m : Nat) (out : List Nd) (X Y : Int) : placeF m out X Y [] = (out, 0) := by
 cases m <;> rfl
theorem placeF_succ {m : Nat} {out : List Nd} {X Y : Int} {L : List Cl} (hne : L ≠ []) : placeF (m + 1) out X Y L = (outP m out X Y L 4 ++ [topP m out X Y L], (((outP m out X Y L 4).length + 1 : Nat) : Int)) := by
 have h0 : L.isEmpty = false := by
  cases L with
  | nil => exact absurd rfl hne
  | cons c L => rfl
 conv => lhs; unfold placeF
 rw [h0]
 rfl
theorem quart_len (h X Y : Int) (hh : 0 < h) (L : List Cl) : (L.filter (sqB (X + offI h 0) (Y + offJ h 0) h)).length + (L.filter (sqB (X + offI h 1) (Y + offJ h 1) h)).length + (L.filter (sqB (X + offI h 2) (Y + offJ h 2) h)).length + (L.filter (sqB (X + offI h 3) (Y + offJ h 3) h)).length ≤ L.length := by
 induction L with
 | nil => exact Nat.le_refl 0
 | cons c L ih =>
  have s0 := sq_iff (X := X + offI h 0) (Y := Y + offJ h 0) (h := h) (c := c)
  have s1 := sq_iff (X := X + offI h 1) (Y := Y + offJ h 1) (h := h) (c := c)
  have s2 := sq_iff (X := X + offI h 2) (Y := Y + offJ h 2) (h := h) (c := c)
  have s3 := sq_iff (X := X + offI h 3) (Y := Y + offJ h 3) (h := h) (c := c)
  rw [List.filter_cons, List.filter_cons, List.filter_cons, List.filter_cons, List.length_cons]
  simp only [offI, offJ, Int.add_zero] at s0 s1 s2 s3 ih ⊢
  generalize sqB X Y h c = b0 at s0 ⊢
  generalize sqB (X + h) Y h c = b1 at s1 ⊢
  generalize sqB X (Y + h) h c = b2 at s2 ⊢
  generalize sqB (X + h) (Y + h) h c = b3 at s3 ⊢
  cases b0 <;> cases b1 <;> cases b2 <;> cases b3 <;> simp at s0 s1 s2 s3 ⊢ <;> omega
theorem place_len : ∀ (m : Nat) (out : List Nd) (X Y : Int) (L : List Cl), (placeF m out X Y L).1.length ≤ out.length + m * L.length
 | 0, out, X, Y, L => Nat.le_add_right _ _
 | m + 1, out, X, Y, L => by
  by_cases hne : L = []
  ·
   subst hne
   rw [placeF_nil]
   exact Nat.le_add_right _ _
  ·
   have hp : 0 < L.length := List.length_pos_iff.2 hne
   have h0 : (outP m out X Y L 1).length ≤ _ := place_len m out (X + offI (p2 m) 0) (Y + offJ (p2 m) 0) (L.filter (sqB (X + offI (p2 m) 0) (Y + offJ (p2 m) 0) (p2 m)))
   have h1 : (outP m out X Y L 2).length ≤ _ := place_len m (outP m out X Y L 1) (X + offI (p2 m) 1) (Y + offJ (p2 m) 1) (L.filter (sqB (X + offI (p2 m) 1) (Y + offJ (p2 m) 1) (p2 m)))
   have h2 : (outP m out X Y L 3).length ≤ _ := place_len m (outP m out X Y L 2) (X + offI (p2 m) 2) (Y + offJ (p2 m) 2) (L.filter (sqB (X + offI (p2 m) 2) (Y + offJ (p2 m) 2) (p2 m)))
   have h3 : (outP m out X Y L 4).length ≤ _ := place_len m (outP m out X Y L 3) (X + offI (p2 m) 3) (Y + offJ (p2 m) 3) (L.filter (sqB (X + offI (p2 m) 3) (Y + offJ (p2 m) 3) (p2 m)))
   have hq := quart_len (p2 m) X Y (p2_pos m) L
   have hm := Nat.mul_le_mul_left m hq
   rw [Nat.mul_add, Nat.mul_add, Nat.mul_add] at hm
   rw [placeF_succ hne, Nat.add_mul, Nat.one_mul]
   show (outP m out X Y L 4 ++ [topP m out X Y L]).length ≤ _
   rw [List.length_append, List.length_singleton]
   omega
theorem outP_len (m : Nat) (out : List Nd) (X Y : Int) (L : List Cl) (k : Nat) (hk : k < 4) : (outP m out X Y L k).length + m * (L.filter (sqB (X + offI (p2 m) k) (Y + offJ (p2 m) k) (p2 m))).length ≤ out.length + m * L.length := by
 have h0 : (outP m out X Y L 1).length ≤ _ := place_len m out (X + offI (p2 m) 0) (Y + offJ (p2 m) 0) (L.filter (sqB (X + offI (p2 m) 0) (Y + offJ (p2 m) 0) (p2 m)))
 have h1 : (outP m out X Y L 2).length ≤ _ := place_len m (outP m out X Y L 1) (X + offI (p2 m) 1) (Y + offJ (p2 m) 1) (L.filter (sqB (X + offI (p2 m) 1) (Y + offJ (p2 m) 1) (p2 m)))
 have h2 : (outP m out X Y L 3).length ≤ _ := place_len m (outP m out X Y L 2) (X + offI (p2 m) 2) (Y + offJ (p2 m) 2) (L.filter (sqB (X + offI (p2 m) 2) (Y + offJ (p2 m) 2) (p2 m)))
 have hq := quart_len (p2 m) X Y (p2_pos m) L
 have hm := Nat.mul_le_mul_left m hq
 rw [Nat.mul_add, Nat.mul_add, Nat.mul_add] at hm
 have e0 : (outP m out X Y L 0).length = out.length := rfl
 match k, hk with
 | 0, _ => omega
 | 1, _ => omega
 | 2, _ => omega
 | 3, _ => omega
theorem outP_four (m : Nat) (out : List Nd) (X Y : Int) (L : List Cl) : (outP m out X Y L 4).length ≤ out.length + m * L.length := by
 have h := outP_len m out X Y L 3 (by omega)
 have h3 : (outP m out X Y L 4).length ≤ _ := place_len m (outP m out X Y L 3) (X + offI (p2 m) 3) (Y + offJ (p2 m) 3) (L.filter (sqB (X + offI (p2 m) 3) (Y + offJ (p2 m) 3) (p2 m)))
 omega
theorem place_num (m : Nat) (out : List Nd) (X Y : Int) {L : List Cl} (h : ∀ c ∈ L, 0 ≤ c.s ∧ c.s ≤ 255) : 0 ≤ (placeF m out X Y L).2 ∧ (placeF m out X Y L).2 ≤ 255 + ((placeF m out X Y L).1.length : Int) := by
 cases m with
 | zero =>
  cases L with
  | nil => exact ⟨Int.le_refl 0, by show (0 : Int) ≤ 255 + ((out.length : Nat) : Int); omega⟩
  | cons c L =>
   have := h c (by simp)
   exact ⟨this.1, by show c.s ≤ 255 + ((out.length : Nat) : Int); omega⟩
 | succ m =>
  by_cases hne : L = []
  ·
   subst hne
   rw [placeF_nil]
   exact ⟨Int.le_refl 0, by show (0 : Int) ≤ 255 + ((out.length : Nat) : Int); omega⟩
  ·
   rw [placeF_succ hne]
   dsimp only
   rw [List.length_append, List.length_singleton]
   omega
theorem topP_wf {m : Nat} {out : List Nd} {X Y : Int} {L : List Cl} (hm : m ≤ 1328) (h : ∀ c ∈ L, 0 ≤ c.s ∧ c.s ≤ 255) (hl : out.length + m * L.length ≤ 900000) : (topP m out X Y L).wf := by
 have key : ∀ k, k < 4 → in64 (kidP m out X Y L k) := fun k hk => by
  have h1 := place_num m (outP m out X Y L k) (X + offI (p2 m) k) (Y + offJ (p2 m) k) (L := L.filter (sqB (X + offI (p2 m) k) (Y + offJ (p2 m) k) (p2 m))) (fun c hc => h c (List.mem_filter.1 hc).1)
  have h2 := place_len m (outP m out X Y L k) (X + offI (p2 m) k) (Y + offJ (p2 m) k) (L.filter (sqB (X + offI (p2 m) k) (Y + offJ (p2 m) k) (p2 m)))
  have h3 := outP_len m out X Y L k hk
  unfold kidP
  exact ⟨by omega, by omega⟩
 exact ⟨⟨by show _ ≤ (m : Int) + 1; omega, by show (m : Int) + 1 ≤ _; omega⟩, key 0 (by omega), key 1 (by omega), key 2 (by omega), key 3 (by omega)⟩
end Go.Proofs.YtmfncapgikobkaaGreat

namespace Go.Proofs.YtmfncapgikobkaaGreat
set_option maxRecDepth 100000
set_option linter.unusedVariables false
set_option linter.unusedSimpArgs false
open Go.RowKit Num
set_option maxRecDepth 100000 in
set_option maxHeartbeats 1600000 in
theorem rbshl_F (s : Bool) (A : Option Addr) (c : Nat) (xs : List Nat) (n : Int) (w : World) (h : Us w A c xs) (hl : xs.length ≤ 60000) :
  Calls Tryz.prog 64 #[.agg #[.bool s, .slice A xs.length c], .int .i64 n] w (RetIF (shlI (ival s xs) n) w) := by
 have hcap := h.cap
 obtain ⟨hX, hR, hB⟩ := box2 w (.bool s) (.slice A xs.length c) (.bool false) (.slice none 0 0) 42
 have HX := Lib.hid hX.drew
 have HR := Lib.hid hR.drew
 have HB := Lib.hid (Below.drew' hB)
 have hd := h.1
 have H1 := Lib.hid (h.below HB.out)
 clear h hX hR hB
 go_enter Tryz.func64, Tryz.ntmps64
 go_wp2_with fail
 go_region_held3 (fun w' => w'.cell? ⟨w.heap.size, 0, none⟩ = some (.bool s) ∧ w'.cell? ⟨w.heap.size, 1, none⟩ = some (.slice A xs.length c))
  (first | go_keep | fail)
  (first
   | (go_at_call 90; refine (rshl_z _ _ xs n _ H1.out (by omega)).mono ?_; rintro e w1 ⟨A1, c1, r1, rfl, q1, k1, v1, b1⟩; obtain ⟨x1, x2, _, _, _⟩ := HX.out.below b1)
   | (go_at_call 54; refine (rsign_fr s _ _ r1 _ q1 (by have := len_shl hd hl k1 v1; omega)).mono ?_; rintro e w2 ⟨A2, c2, s2, r2, rfl, q2, k2, v2, b2, f2⟩; have HF2 := Lib.hid f2; clear f2; obtain ⟨x1, x2, _, _, _⟩ := (HX.out.below b1).below b2; obtain ⟨y1, y2, y3, y4, _⟩ := (HR.out.below b1).below b2))
 go_wp2
 obtain ⟨e1, e2, _, _, _⟩ := (((HR.out.below b1).below b2).set (.bool s2) (.slice A2 r2.length c2))
 refine bodyPost_ret (v := .agg #[.bool s2, .slice A2 r2.length c2]) (by simp [results, Tryz.results64, go_sem, e1, e2]) rfl ?_
 exact RetIF.box (by omega) ((HR.out.below b1).below b2) q2 k2 (v2.trans (ival_shl s v1)) ((HB.out.trans (b1.mono HB.out.size)).trans (b2.mono (HB.out.trans (b1.mono HB.out.size)).size)) (fun a ea => Nat.le_trans HB.out.size (Nat.le_trans b1.size (HF2.out a ea)))
set_option maxRecDepth 100000 in
set_option maxHeartbeats 1600000 in
theorem rbpow_F (n : Int) (w : World) :
  Calls Tryz.prog 32 #[.int .i64 n] w (RetIF (shlI 1 n) w) := by
 obtain ⟨hR, hB⟩ := box1 w (.bool false) (.slice none 0 0) 42
 have HR := Lib.hid hR
 have HB := Lib.hid hB
 clear hR hB
 go_enter Tryz.func32, Tryz.ntmps32
 go_wp2_with (first
  | (go_at_call 22; refine (rbof_any 1 _ (by decide) (by decide)).mono ?_; rintro e w1 ⟨A1, c1, s1, r1, rfl, q1, k1, v1, b1⟩; have l1 : r1.length ≤ 1 := len_ival k1 v1 1 (by decide); have HV := Lib.hid v1; clear v1)
  | (go_at_call 64; refine (rbshl_F s1 _ _ r1 n _ q1 (by omega)).mono ?_; rintro e w2 ⟨A2, c2, s2, r2, rfl, q2, k2, v2, b2, f2⟩; have HF2 := Lib.hid f2; clear f2; obtain ⟨y1, y2, y3, y4, _⟩ := (HR.out.below b1).below b2; have HV2 := Lib.hid v2; clear v2))
 obtain ⟨e1, e2, _, _, _⟩ := (((HR.out.below b1).below b2).set (.bool s2) (.slice A2 r2.length c2))
 refine bodyPost_ret (v := .agg #[.bool s2, .slice A2 r2.length c2]) (by simp [results, Tryz.results32, go_sem, e1, e2]) rfl ?_
 exact RetIF.box (by omega) ((HR.out.below b1).below b2) q2 k2 (by rw [HV2.out, HV.out]) ((HB.out.trans (b1.mono HB.out.size)).trans (b2.mono (HB.out.trans (b1.mono HB.out.size)).size)) (fun a ea => Nat.le_trans HB.out.size (Nat.le_trans b1.size (HF2.out a ea)))
end Go.Proofs.YtmfncapgikobkaaGreat

namespace Go.Proofs.YtmfncapgikobkaaGreat
set_option maxRecDepth 100000
set_option linter.unusedVariables false
set_option linter.unusedSimpArgs false
open Go.RowKit Nds Num
theorem Ky.usP {P : Nat → Prop} {w w' : World} (h : Ky P w w') {A : Option Addr} {c : Nat} {xs : List Nat} (u : Us w A c xs) (hp : 0 < xs.length → ∀ a, A = some a → ¬ P a.block) : Us w' A c xs :=
 ⟨u.1, u.2.1, u.2.2.1, fun hn => by
  obtain ⟨b, off, e, hlt, hc⟩ := u.2.2.2 hn
  exact ⟨b, off, e, Nat.lt_of_lt_of_le hlt h.size, fun j v hv => h.cell (hc j v hv) (show ¬ P b from hp (by simpa using hn) ⟨b, off, none⟩ e)⟩⟩
theorem Ky.hxP {P : Nat → Prop} {w w' : World} (h : Ky P w w') {g : Nat} {s : Bool} {A : Option Addr} {c : Nat} {xs : List Nat} {n : Int} (x : HX w g s A c xs n) (hg : ¬ P g) (hp : 0 < xs.length → ∀ a, A = some a → ¬ P a.block) : HX w' g s A c xs n :=
 ⟨(h.block g x.lt hg).trans x.box, h.usP x.us hp, x.cn, x.v, x.off⟩
theorem Ky.csP {P : Nat → Prop} {w w' : World} (h : Ky P w w') {A : Option Addr} {c : Nat} {l : List Cv} (k : Cs w A c l) (hl : ∀ u ∈ l, (0 < u.xs.length → ∀ a, u.ax = some a → ¬ P a.block) ∧ (0 < u.ys.length → ∀ a, u.ay = some a → ¬ P a.block)) (hb : 0 < l.length → ∀ a, A = some a → ¬ P a.block) : Cs w' A c l :=
 ⟨fun u hu => ⟨h.usP (k.1 u hu).1 (hl u hu).1, h.usP (k.1 u hu).2.1 (hl u hu).2, (k.1 u hu).2.2⟩, k.2.1, k.2.2.1, fun hn => by
  obtain ⟨b, off, e, hlt, hc⟩ := k.2.2.2 hn
  exact ⟨b, off, e, Nat.lt_of_lt_of_le hlt h.size, fun i hi => (hc i hi).below (h.block b hlt (hb hn _ e))⟩⟩
def RetPl (M : Nat) (out : List Nd) (X Y : Int) (L : List Cl) (base : Nat) (v : Value) (w : World) (e : Ending) (w' : World) : Prop :=
 ∃ v', e = .returned (.tuple #[v', .int .i64 (placeF M out X Y L).2]) ∧ OwnN w' base v' (placeF M out X Y L).1 ∧ (∀ k, v'.ownBlock = some k → v.ownBlock = some k ∨ w.heap.size ≤ k) ∧ Ky (fun k => v.ownBlock = some k) w w'
set_option maxRecDepth 100000 in
set_option maxHeartbeats 3200000 in
theorem rplace_nil (base M : Nat) (out : List Nd) (v : Value) (lv : Int) (Ax Ay B : Option Addr) (cx cy d : Nat) (sx sy : Bool) (xs ys : List Nat) (X Y : Int) (w : World) (h : OwnN w base v out) :
  Calls Tryz.prog 33 #[v, .int .i64 lv, .agg #[.bool sx, .slice Ax xs.length cx], .agg #[.bool sy, .slice Ay ys.length cy], .slice B 0 d] w (RetPl M out X Y [] base v w) := by
 have hb : Ky (fun k => v.ownBlock = some k) w ((w.alloc (.cells #[.bool sx, .slice Ax xs.length cx] 42)).alloc (.cells #[.bool sy, .slice Ay ys.length cy] 42)) := ((Ky.refl _ _).alloc _).alloc _
 have HB := Lib.hid hb
 have HO := Lib.hid ((h.alloc (.cells #[.bool sx, .slice Ax xs.length cx] 42)).alloc (.cells #[.bool sy, .slice Ay ys.length cy] 42))
 obtain ⟨R, hR⟩ : ∃ R, R = RetPl M out X Y [] base v w := ⟨_, rfl⟩
 rw [← hR]
 have HR := Lib.hid hR
 clear hb h hR
 go_enter Tryz.func33, Tryz.ntmps33
 go_wp2_with fail
 first | go_ret2 | skip
 rw [HR.out]
 unfold RetPl
 rw [placeF_nil]
 exact ⟨v, rfl, HO.out, fun k hk => .inl hk, HB.out⟩
structure FarP (B0 : Nat) (v0 : Value) (Ax : Option Addr) (xs : List Nat) (Ay : Option Addr) (ys : List Nat) (B : Option Addr) (l : List Cv) : Prop where
 fv : ∀ q, v0.ownBlock = some q → q < B0
 fx : 0 < xs.length → ∀ a, Ax = some a → a.block < B0 ∧ v0.ownBlock ≠ some a.block
 fy : 0 < ys.length → ∀ a, Ay = some a → a.block < B0 ∧ v0.ownBlock ≠ some a.block
 fl : ∀ u ∈ l, (0 < u.xs.length → ∀ a, u.ax = some a → a.block < B0 ∧ v0.ownBlock ≠ some a.block) ∧ (0 < u.ys.length → ∀ a, u.ay = some a → a.block < B0 ∧ v0.ownBlock ≠ some a.block)
 fb : 0 < l.length → ∀ a, B = some a → a.block < B0 ∧ v0.ownBlock ≠ some a.block
structure PlJ (w : World) (base : Nat) (v0 : Value) (B : Option Addr) (d : Nat) (l : List Cv) (sx : Bool) (Ax : Option Addr) (cx : Nat) (xs : List Nat) (X : Int) (sy : Bool) (Ay : Option Addr) (cy : Nat) (ys : List Nat) (Y : Int) (gh : Nat) (sh : Bool) (Ah : Option Addr) (ch : Nat) (hs : List Nat) (m gn : Nat) (y : Nd) (k : Nat) (v : Value) (o : List Nd) (W : World) : Prop where
 b : Ky (fun q => v0.ownBlock = some q) w W
 cs : Cs W B d l
 bx : HX W w.heap.size sx Ax cx xs X
 by_ : HX W (w.heap.size + 1) sy Ay cy ys Y
 bh : HX W gh sh Ah ch hs (p2 m)
 lt : w.heap.size + 1 < gh
 ln : gh < gn
 hl : 0 < hs.length → ∀ a, Ah = some a → w.heap.size ≤ a.block ∧ a.block < gn
 nb : NdBox W gn (mix ⟨(m : Int) + 1, 0, 0, 0, 0⟩ y k)
 o : OwnN W base v o
 ob : ∀ q, v.ownBlock = some q → v0.ownBlock = some q ∨ gn < q
section
variable {w : World} {base : Nat} {v0 : Value} {B : Option Addr} {d : Nat} {l : List Cv} {sx : Bool} {Ax : Option Addr} {cx : Nat} {xs : List Nat} {X : Int} {sy : Bool} {Ay : Option Addr} {cy : Nat} {ys : List Nat} {Y : Int} {gh : Nat} {sh : Bool} {Ah : Option Addr} {ch : Nat} {hs : List Nat} {m gn : Nat} {y : Nd} {k : Nat} {v : Value} {o : List Nd} {W W1 : World}
theorem PlJ.nextP (h : PlJ w base v0 B d l sx Ax cx xs X sy Ay cy ys Y gh sh Ah ch hs m gn y k v o W) (q : Below W.heap.size W W1) : PlJ w base v0 B d l sx Ax cx xs X sy Ay cy ys Y gh sh Ah ch hs m gn y k v o W1 :=
 ⟨h.b.below q, h.cs.below q, h.bx.next q, h.by_.next q, h.bh.next q, h.lt, h.ln, h.hl, h.nb.stay (q.block gn h.nb.lt), h.o.stays q, h.ob⟩
theorem PlJ.keepP {P : Nat → Prop} (h : PlJ w base v0 B d l sx Ax cx xs X sy Ay cy ys Y gh sh Ah ch hs m gn y k v o W) (F : FarP w.heap.size v0 Ax xs Ay ys B l) (hk : Ky P W W1) (hP : ∀ t, t < gn → (t < w.heap.size → v0.ownBlock ≠ some t) → ¬ P t) :
  Cs W1 B d l ∧ HX W1 w.heap.size sx Ax cx xs X ∧ HX W1 (w.heap.size + 1) sy Ay cy ys Y ∧ HX W1 gh sh Ah ch hs (p2 m) := by
 have h1 := h.lt
 have h2 := h.ln
 have old : ∀ t, t < w.heap.size ∧ v0.ownBlock ≠ some t → ¬ P t := fun t ht => hP t (by omega) (fun _ => ht.2)
 exact ⟨hk.csP h.cs (fun u hu => ⟨fun h0 a ea => old _ ((F.fl u hu).1 h0 a ea), fun h0 a ea => old _ ((F.fl u hu).2 h0 a ea)⟩) (fun h0 a ea => old _ (F.fb h0 a ea)),
  hk.hxP h.bx (hP _ (by omega) (fun e => absurd e (by omega))) (fun h0 a ea => old _ (F.fx h0 a ea)),
  hk.hxP h.by_ (hP _ (by omega) (fun e => absurd e (by omega))) (fun h0 a ea => old _ (F.fy h0 a ea)),
  hk.hxP h.bh (hP _ h2 (fun e => absurd e (by omega))) (fun h0 a ea => hP _ (h.hl h0 a ea).2 (fun e => absurd e (by have := (h.hl h0 a ea).1; omega)))⟩
theorem PlJ.offP (h : PlJ w base v0 B d l sx Ax cx xs X sy Ay cy ys Y gh sh Ah ch hs m gn y k v o W) {t : Nat} (ht : t ≤ gn) (hv : t < w.heap.size → v0.ownBlock ≠ some t) (hf : ∀ q, v0.ownBlock = some q → q < w.heap.size) : v.ownBlock ≠ some t := fun e => by
 rcases h.ob t e with e2 | e2
 ·
  exact hv (hf t e2) e2
 ·
  omega
theorem PlJ.callP {v2 : Value} {o2 : List Nd} (h : PlJ w base v0 B d l sx Ax cx xs X sy Ay cy ys Y gh sh Ah ch hs m gn y k v o W) (F : FarP w.heap.size v0 Ax xs Ay ys B l) (hk : Ky (fun q => v.ownBlock = some q) W W1) (ho : OwnN W1 base v2 o2) (h2 : ∀ q, v2.ownBlock = some q → v.ownBlock = some q ∨ W.heap.size ≤ q) :
  PlJ w base v0 B d l sx Ax cx xs X sy Ay cy ys Y gh sh Ah ch hs m gn y k v2 o2 W1 := by
 have h0 := h.lt
 have h1 := h.ln
 have hgn := h.nb.lt
 obtain ⟨k1, k2, k3, k4⟩ := h.keepP F hk fun t ht hv => h.offP (by omega) hv F.fv
 refine ⟨h.b.trans hk (fun i hi e => ?_), k1, k2, k3, k4, h0, h1, h.hl, h.nb.stay (hk.block gn hgn (h.offP (Nat.le_refl _) (fun e => absurd e (by omega)) F.fv)), ho, fun q hq => ?_⟩
 ·
  rcases h.ob i e with e2 | e2
  ·
   exact e2
  ·
   omega
 ·
  rcases h2 q hq with e | e
  ·
   exact h.ob q e
  ·
   exact .inr (by omega)
theorem PlJ.putP (h : PlJ w base v0 B d l sx Ax cx xs X sy Ay cy ys Y gh sh Ah ch hs m gn y k v o W) (F : FarP w.heap.size v0 Ax xs Ay ys B l) (hk4 : k < 4) {r : Nat} (hr : r = 1 + k) {u : Int} (hu : u = y.kid k) :
  PlJ w base v0 B d l sx Ax cx xs X sy Ay cy ys Y gh sh Ah ch hs m gn y (k + 1) v o (W.setCell ⟨gn, r, none⟩ (.int .i64 u)) := by
 have h0 := h.lt
 have h1 := h.ln
 have hk : Ky (fun q => q = gn) W (W.setCell ⟨gn, r, none⟩ (.int .i64 u)) := Ky.set (P := fun q => q = gn) (Ky.refl _ _) ⟨gn, r, none⟩ (fun _ => rfl) _
 obtain ⟨k1, k2, k3, k4⟩ := h.keepP F hk fun t ht _ e => by omega
 exact ⟨h.b.set _ (fun e => absurd (show gn < w.heap.size from e) (by omega)) _, k1, k2, k3, k4, h0, h1, h.hl, h.nb.setKid hk4 hr hu, h.o.gbr (gb_setCell _ _ _) (.inr (show v.ownBlock ≠ some gn from h.offP (Nat.le_refl _) (fun e => absurd e (by omega)) F.fv)), h.ob⟩
end
def sqC (X Y h : Int) (u : Cv) : Bool := sqB X Y h u.cl
theorem sqC_map (X Y h : Int) (l : List Cv) : (l.filter (sqC X Y h)).map Cv.cl = (l.map Cv.cl).filter (sqB X Y h) := by
 rw [List.filter_map]
 rfl
theorem take_filter {l : List Cv} {p : Cv → Bool} {i : Nat} (hi : i < l.length) : (l.take (i + 1)).filter p = (l.take i).filter p ++ (if p (cat l i) = true then [cat l i] else []) := by
 rw [List.take_succ_eq_append_getElem hi, List.filter_append]
 have e : cat l i = l[i] := by
  unfold cat
  rw [List.getElem?_eq_getElem hi]
  rfl
 rw [e]
 congr 1
 by_cases hp : p l[i] = true
 ·
  rw [if_pos hp, List.filter_cons_of_pos hp, List.filter_nil]
 ·
  rw [if_neg hp, List.filter_cons_of_neg hp, List.filter_nil]
theorem cellB {w w' : World} (hb : Below w.heap.size w w') {p : Addr} {u : Value} (h : w.cell? p = some u) : w'.cell? p = some u := (hb.cell (p := p) (World.block_lt_of_cell? w p h)).trans h
end Go.Proofs.YtmfncapgikobkaaGreat
