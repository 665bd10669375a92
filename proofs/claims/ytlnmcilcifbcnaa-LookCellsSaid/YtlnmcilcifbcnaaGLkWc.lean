/-
  look: LookDeep, the walk.
  look: LookCells, the walk.
-/
import Derived.Test.YtlnmcilcifbcnaaGLkAl
import Derived.Test.YtlnmcilcifbcnaaGNcRS
import Derived.Test.YtlnmcilcifbcnaaGLkGu
import Derived.Test.YtlnmcilcifbcnaaGNdsW
import Derived.Test.YtlnmcilcifbcnaaLay0

set_option linter.unusedVariables false
set_option linter.unusedSimpArgs false
set_option maxRecDepth 100000
namespace Go.Proofs.Ytlnmcilcifbcnaa
open Go.RowKit Num Nds
structure Ac (w W : World) (L : List (Option Addr × Nat × List Nd)) (M : List (Nat × Value)) (C : List (Nat × Cv)) : Prop where
 al : Al w W L M
 cb : ∀ t ∈ C, CvAt W t.1 0 t.2 ∧ CvU W t.2
theorem Ac.step {w W W' : World} {L : List (Option Addr × Nat × List Nd)} {M : List (Nat × Value)} {C : List (Nat × Cv)} (s : Ac w W L M C) (b : Below W.heap.size W W') : Ac w W' L M C :=
 ⟨s.al.step b, fun t ht => ⟨(s.cb t ht).1.below (b.block _ (World.block_lt_of_cell? _ _ (s.cb t ht).1.1)), (s.cb t ht).2.below b⟩⟩
theorem Ac.alloc {w W : World} {L : List (Option Addr × Nat × List Nd)} {M : List (Nat × Value)} {C : List (Nat × Cv)} (s : Ac w W L M C) (o : Obj) : Ac w (W.alloc o) L M C := s.step ((Below.refl _ W).alloc (Nat.le_refl _) o)
theorem Ac.addN {w W : World} {L : List (Option Addr × Nat × List Nd)} {M : List (Nat × Value)} {C : List (Nat × Cv)} (s : Ac w W L M C) {A : Option Addr} {c : Nat} {l : List Nd} (h : Ns W A c l) : Ac w W ((A, c, l) :: L) M C := ⟨s.al.addN h, s.cb⟩
theorem Ac.addB {w W : World} {L : List (Option Addr × Nat × List Nd)} {M : List (Nat × Value)} {C : List (Nat × Cv)} (s : Ac w W L M C) (v : Value) : Ac w (W.alloc (.cells #[v] 31)) L ((W.heap.size, v) :: M) C := ⟨s.al.addB v, (s.alloc _).cb⟩
theorem Ac.getN {w W : World} {L : List (Option Addr × Nat × List Nd)} {M : List (Nat × Value)} {C : List (Nat × Cv)} (s : Ac w W L M C) {A : Option Addr} {c : Nat} {l : List Nd} (h : (A, c, l) ∈ L) : Ns W A c l := s.al.getN h
theorem Ac.getB {w W : World} {L : List (Option Addr × Nat × List Nd)} {M : List (Nat × Value)} {C : List (Nat × Cv)} (s : Ac w W L M C) {g : Nat} {v : Value} (h : (g, v) ∈ M) : W.cell? ⟨g, 0, none⟩ = some v := s.al.getB h
theorem Ac.getC {w W : World} {L : List (Option Addr × Nat × List Nd)} {M : List (Nat × Value)} {C : List (Nat × Cv)} (s : Ac w W L M C) {g : Nat} {u : Cv} (h : (g, u) ∈ C) : W.cell? ⟨g, 0, none⟩ = some (.bool u.sx) ∧ W.cell? ⟨g, 1, none⟩ = some (.slice u.ax u.xs.length u.cx) ∧ W.cell? ⟨g, 2, none⟩ = some (.bool u.sy) ∧ W.cell? ⟨g, 3, none⟩ = some (.slice u.ay u.ys.length u.cy) ∧ W.cell? ⟨g, 4, none⟩ = some (.int .u8 u.st) := (s.cb _ h).1
theorem Ac.getU {w W : World} {L : List (Option Addr × Nat × List Nd)} {M : List (Nat × Value)} {C : List (Nat × Cv)} (s : Ac w W L M C) {g : Nat} {u : Cv} (h : (g, u) ∈ C) : CvU W u := (s.cb _ h).2
theorem Ac.b {w W : World} {L : List (Option Addr × Nat × List Nd)} {M : List (Nat × Value)} {C : List (Nat × Cv)} (s : Ac w W L M C) : Below w.heap.size w W := s.al.sn.1
theorem Ac.one (w : World) (u : Cv) (h : CvU w u) : Ac w (w.alloc (.cells #[.bool u.sx, .slice u.ax u.xs.length u.cx, .bool u.sy, .slice u.ay u.ys.length u.cy, .int .u8 u.st] 27)) [] [] [(w.heap.size, u)] :=
 ⟨(Al.start w).alloc _, fun t ht => by
  rw [List.mem_singleton.1 ht]
  exact ⟨CvAt.new w u _, h.below ((Below.refl _ w).alloc (Nat.le_refl _) _)⟩⟩
theorem cs_one {w : World} {g : Nat} (u : Cv) (h : w.heap[g]? = some (.cells #[.bool u.sx, .slice u.ax u.xs.length u.cx, .bool u.sy, .slice u.ay u.ys.length u.cy, .int .u8 u.st] 27)) (hu : CvU w u) : Cs w (some ⟨g, 0, none⟩) 1 [u] := by
 refine ⟨fun x hx => ?_, Nat.le_refl _, by simp [maxLen], fun _ => ⟨g, 0, rfl, (Array.getElem?_eq_some_iff.1 h).1, fun i hi => ?_⟩⟩
 ·
  rw [List.mem_singleton.1 hx]
  exact hu
 ·
  match i, hi with
  | 0, _ => refine ⟨?_, ?_, ?_, ?_, ?_⟩ <;> (rw [cell_of_row _ _ _ _ _ _ h]; rfl)
theorem cells4 {W : World} {g : Nat} {u : Cv} (h : W.cell? ⟨g, 0, none⟩ = some (.bool u.sx) ∧ W.cell? ⟨g, 1, none⟩ = some (.slice u.ax u.xs.length u.cx) ∧ W.cell? ⟨g, 2, none⟩ = some (.bool u.sy) ∧ W.cell? ⟨g, 3, none⟩ = some (.slice u.ay u.ys.length u.cy) ∧ W.cell? ⟨g, 4, none⟩ = some (.int .u8 u.st)) :
  W.cell? ⟨g, 0, none⟩ = some (.bool u.sx) ∧ W.cell? ⟨g, 1, none⟩ = some (.slice u.ax u.xs.length u.cx) ∧ W.cell? ⟨g, 2, none⟩ = some (.bool u.sy) ∧ W.cell? ⟨g, 3, none⟩ = some (.slice u.ay u.ys.length u.cy) := ⟨h.1, h.2.1, h.2.2.1, h.2.2.2.1⟩
abbrev Cv.bx (u : Cv) : Bw := ⟨u.sx, u.ax, u.cx, u.xs⟩
abbrev Cv.by_ (u : Cv) : Bw := ⟨u.sy, u.ay, u.cy, u.ys⟩
theorem cv_r {W : World} {u : Cv} (h : CvU W u) (kx : CanonI u.sx u.xs) (ky : CanonI u.sy u.ys) : u.bx.R W (ival u.sx u.xs) ∧ u.by_.R W (ival u.sy u.ys) := ⟨⟨h.1, kx, rfl⟩, ⟨h.2.1, ky, rfl⟩⟩
theorem right_cn {s : Bool} {xs : List Nat} (h : rightI s xs = true) : CanonI s xs := right_canonC h
theorem eq_of_setE {q a b : List Nd} {X Y s er fr : Int} (h : SetE q X Y s er a) (k : SetE q X Y s fr b) : a = b ∧ er = fr := h.one k
end Go.Proofs.Ytlnmcilcifbcnaa

namespace Go.Proofs.Ytlnmcilcifbcnaa
open Go.RowKit Num Nds
theorem quad_len {l : List Cv} {most : Nat} {q : List Nd} (h : mayB l (most : Int) = true) (hq : QuadOf (lastF (l.map Cv.cl)) q) : q.length ≤ 1329 * most := by
 have h1 := (may_R h).1
 have h2 := hq.lenF.2
 have h3 := lastF_le (l.map Cv.cl)
 rw [List.length_map] at h3
 exact Nat.le_trans h2 (Nat.mul_le_mul_left _ (by omega))
set_option maxHeartbeats 6400000 in
theorem lcells_may
  (A : Option Addr) (c n : Nat) (l : List Cv) (u : Cv) (w : World) (h : Cs w A c l) (hn : l.length = n) (hu : CvU w u) (hm : mayB l 30 = false) :
  Calls Try.prog 3 #[.slice A n c, cvv u] w fun e w' => e = .returned (.bool true) ∧ Below w.heap.size w w' := by
 have hcap := h.cap
 rw [hn] at hcap
 have hv1 := hu.1.cap
 have hv2 := hu.2.1.cap
 have hst := hu.2.2
 have HCS := Lib.hid h
 have HL := Lib.hid hn
 have HC := Lib.hid (Ac.one w u hu)
 have HM := Lib.hid hm
 have q0 : True := trivial
 clear h hn hu hm
 go_enter Try.func3, Try.ntmps3
 go_wp2_with (first
   | (have _t := q0; go_at_call 10; clear _t; go_loud (refine (alive8_any _).mono ?_; rintro e w1 ⟨rfl, b1⟩; have H1 := Lib.hid (HC.out.step b1); obtain ⟨c0, c1, c2, c3, c4⟩ := H1.out.getC (g := w.heap.size) (u := u) (by simp); clear b1; have q1 := q0; clear q0))
   | (have _t := q1; go_at_call 11; clear _t; go_loud (refine (rquad_any A c n 30 l _ (HCS.out.below H1.out.b) HL.out (by omega)).mono ?_; rintro e w2 ⟨A5, c5, qn, q, ok, rfl, l5, n5, a5, b5, hok, -, hqo⟩; rw [HM.out] at hok; subst hok; have hc5 := n5.cap; rw [l5] at hc5; have H2 := Lib.hid (((H1.out.step b5).addN n5).addB (.slice A5 qn c5)); have HA5 := Lib.hid a5; have HQN := Lib.hid l5; have HQO := Lib.hid hqo; obtain ⟨c0, c1, c2, c3, c4⟩ := H2.out.getC (g := w.heap.size) (u := u) (by simp); clear n5 a5 b5 l5 hqo; have q2 := q1; clear q1)))
 go_ret
 exact ⟨rfl, H2.out.b⟩
set_option maxHeartbeats 6400000 in
theorem lcells_great
  (A : Option Addr) (c n : Nat) (l : List Cv) (u : Cv) (w : World) (h : Cs w A c l) (hn : l.length = n) (hu : CvU w u) (hm : mayB l 30 = true) (hg : greatB [u] 1 = true) :
  Calls Try.prog 3 #[.slice A n c, cvv u] w fun e w' => e = .returned (.bool true) ∧ Below w.heap.size w w' := by
 have hcap := h.cap
 rw [hn] at hcap
 have hv1 := hu.1.cap
 have hv2 := hu.2.1.cap
 have hst := hu.2.2
 have HCS := Lib.hid h
 have HL := Lib.hid hn
 have HC := Lib.hid (Ac.one w u hu)
 have HM := Lib.hid hm
 have q0 : True := trivial
 have HG := Lib.hid hg
 clear h hn hu hm hg
 go_enter Try.func3, Try.ntmps3
 go_wp2_with (first
   | (have _t := q0; go_at_call 10; clear _t; go_loud (refine (alive8_any _).mono ?_; rintro e w1 ⟨rfl, b1⟩; have H1 := Lib.hid (HC.out.step b1); obtain ⟨c0, c1, c2, c3, c4⟩ := H1.out.getC (g := w.heap.size) (u := u) (by simp); clear b1; have q1 := q0; clear q0))
   | (have _t := q1; go_at_call 11; clear _t; go_loud (refine (rquad_any A c n 30 l _ (HCS.out.below H1.out.b) HL.out (by omega)).mono ?_; rintro e w2 ⟨A5, c5, qn, q, ok, rfl, l5, n5, a5, b5, hok, -, hqo⟩; rw [HM.out] at hok; subst hok; have hc5 := n5.cap; rw [l5] at hc5; have H2 := Lib.hid (((H1.out.step b5).addN n5).addB (.slice A5 qn c5)); have HA5 := Lib.hid a5; have HQN := Lib.hid l5; have HQO := Lib.hid hqo; obtain ⟨c0, c1, c2, c3, c4⟩ := H2.out.getC (g := w.heap.size) (u := u) (by simp); clear n5 a5 b5 l5 hqo; have q2 := q1; clear q1))
   | (have _t := q2; go_at_call 12; clear _t; go_loud (refine (cgreat_any _ 1 1 1 [u] _ (cs_one (g := w2.heap.size + 1) u (by have h9 := heap_alloc_new (w2.alloc (.cells #[.slice A5 qn c5] 31)) (.cells #[.bool u.sx, .slice u.ax u.xs.length u.cx, .bool u.sy, .slice u.ay u.ys.length u.cy, .int .u8 u.st] 27); rw [World.size_alloc] at h9; exact h9) ((H2.out.getU (g := w.heap.size) (u := u) (by simp)).below ((Below.refl _ (w2.alloc (.cells #[.slice A5 qn c5] 31))).alloc (Nat.le_refl _) _))) rfl).mono ?_; rintro e w3 ⟨rfl, m3, hw3⟩; rw [HG.out]; have b3 := (show Below (w2.alloc (.cells #[.slice A5 qn c5] 31)).heap.size (w2.alloc (.cells #[.slice A5 qn c5] 31)) w3 by rw [hw3]; exact below_drewN' ((Below.refl _ (w2.alloc (.cells #[.slice A5 qn c5] 31))).alloc (Nat.le_refl _) _) m3); have H3 := Lib.hid (H2.out.step b3); obtain ⟨c0, c1, c2, c3, c4⟩ := H3.out.getC (g := w.heap.size) (u := u) (by simp); clear hw3 b3; have q3 := q2; clear q2)))
 go_ret
 exact ⟨rfl, H3.out.b⟩
set_option maxHeartbeats 6400000 in
theorem lcells_badx
  (A : Option Addr) (c n : Nat) (l : List Cv) (u : Cv) (w : World) (h : Cs w A c l) (hn : l.length = n) (hu : CvU w u) (hm : mayB l 30 = true) (hg : greatB [u] 1 = false) (h1 : u.xs.length ≤ 50) (hx : rightI u.sx u.xs = false) :
  Calls Try.prog 3 #[.slice A n c, cvv u] w fun e w' => e = .returned (.bool true) ∧ Below w.heap.size w w' := by
 have hcap := h.cap
 rw [hn] at hcap
 have hv1 := hu.1.cap
 have hv2 := hu.2.1.cap
 have hst := hu.2.2
 have HCS := Lib.hid h
 have HL := Lib.hid hn
 have HC := Lib.hid (Ac.one w u hu)
 have HM := Lib.hid hm
 have q0 : True := trivial
 have HG := Lib.hid hg
 have HRX := Lib.hid hx
 clear h hn hu hm hg hx
 go_enter Try.func3, Try.ntmps3
 go_wp2_with (first
   | (have _t := q0; go_at_call 10; clear _t; go_loud (refine (alive8_any _).mono ?_; rintro e w1 ⟨rfl, b1⟩; have H1 := Lib.hid (HC.out.step b1); obtain ⟨c0, c1, c2, c3, c4⟩ := H1.out.getC (g := w.heap.size) (u := u) (by simp); clear b1; have q1 := q0; clear q0))
   | (have _t := q1; go_at_call 11; clear _t; go_loud (refine (rquad_any A c n 30 l _ (HCS.out.below H1.out.b) HL.out (by omega)).mono ?_; rintro e w2 ⟨A5, c5, qn, q, ok, rfl, l5, n5, a5, b5, hok, -, hqo⟩; rw [HM.out] at hok; subst hok; have hc5 := n5.cap; rw [l5] at hc5; have H2 := Lib.hid (((H1.out.step b5).addN n5).addB (.slice A5 qn c5)); have HA5 := Lib.hid a5; have HQN := Lib.hid l5; have HQO := Lib.hid hqo; obtain ⟨c0, c1, c2, c3, c4⟩ := H2.out.getC (g := w.heap.size) (u := u) (by simp); clear n5 a5 b5 l5 hqo; have q2 := q1; clear q1))
   | (have _t := q2; go_at_call 12; clear _t; go_loud (refine (cgreat_any _ 1 1 1 [u] _ (cs_one (g := w2.heap.size + 1) u (by have h9 := heap_alloc_new (w2.alloc (.cells #[.slice A5 qn c5] 31)) (.cells #[.bool u.sx, .slice u.ax u.xs.length u.cx, .bool u.sy, .slice u.ay u.ys.length u.cy, .int .u8 u.st] 27); rw [World.size_alloc] at h9; exact h9) ((H2.out.getU (g := w.heap.size) (u := u) (by simp)).below ((Below.refl _ (w2.alloc (.cells #[.slice A5 qn c5] 31))).alloc (Nat.le_refl _) _))) rfl).mono ?_; rintro e w3 ⟨rfl, m3, hw3⟩; rw [HG.out]; have b3 := (show Below (w2.alloc (.cells #[.slice A5 qn c5] 31)).heap.size (w2.alloc (.cells #[.slice A5 qn c5] 31)) w3 by rw [hw3]; exact below_drewN' ((Below.refl _ (w2.alloc (.cells #[.slice A5 qn c5] 31))).alloc (Nat.le_refl _) _) m3); have H3 := Lib.hid (H2.out.step b3); obtain ⟨c0, c1, c2, c3, c4⟩ := H3.out.getC (g := w.heap.size) (u := u) (by simp); clear hw3 b3; have q3 := q2; clear q2))
   | (have _t := q3; go_at_call 13; clear _t; go_loud (refine (rbright_any u.sx u.ax u.cx u.xs _ (H3.out.getU (g := w.heap.size) (u := u) (by simp)).1 (by omega)).mono ?_; rintro e w4 ⟨rfl, b4⟩; rw [HRX.out]; have H4 := Lib.hid (H3.out.step b4); obtain ⟨c0, c1, c2, c3, c4⟩ := H4.out.getC (g := w.heap.size) (u := u) (by simp); clear b4; have q4 := q3; clear q3)))
 go_ret
 exact ⟨rfl, H4.out.b⟩
set_option maxHeartbeats 6400000 in
theorem lcells_bady
  (A : Option Addr) (c n : Nat) (l : List Cv) (u : Cv) (w : World) (h : Cs w A c l) (hn : l.length = n) (hu : CvU w u) (hm : mayB l 30 = true) (hg : greatB [u] 1 = false) (h1 : u.xs.length ≤ 50) (h2 : u.ys.length ≤ 50) (hx : rightI u.sx u.xs = true) (hy : rightI u.sy u.ys = false) :
  Calls Try.prog 3 #[.slice A n c, cvv u] w fun e w' => e = .returned (.bool true) ∧ Below w.heap.size w w' := by
 have hcap := h.cap
 rw [hn] at hcap
 have hv1 := hu.1.cap
 have hv2 := hu.2.1.cap
 have hst := hu.2.2
 have HCS := Lib.hid h
 have HL := Lib.hid hn
 have HC := Lib.hid (Ac.one w u hu)
 have HM := Lib.hid hm
 have q0 : True := trivial
 have HG := Lib.hid hg
 have HRX := Lib.hid hx
 have HRY := Lib.hid hy
 clear h hn hu hm hg hx hy
 go_enter Try.func3, Try.ntmps3
 go_wp2_with (first
   | (have _t := q0; go_at_call 10; clear _t; go_loud (refine (alive8_any _).mono ?_; rintro e w1 ⟨rfl, b1⟩; have H1 := Lib.hid (HC.out.step b1); obtain ⟨c0, c1, c2, c3, c4⟩ := H1.out.getC (g := w.heap.size) (u := u) (by simp); clear b1; have q1 := q0; clear q0))
   | (have _t := q1; go_at_call 11; clear _t; go_loud (refine (rquad_any A c n 30 l _ (HCS.out.below H1.out.b) HL.out (by omega)).mono ?_; rintro e w2 ⟨A5, c5, qn, q, ok, rfl, l5, n5, a5, b5, hok, -, hqo⟩; rw [HM.out] at hok; subst hok; have hc5 := n5.cap; rw [l5] at hc5; have H2 := Lib.hid (((H1.out.step b5).addN n5).addB (.slice A5 qn c5)); have HA5 := Lib.hid a5; have HQN := Lib.hid l5; have HQO := Lib.hid hqo; obtain ⟨c0, c1, c2, c3, c4⟩ := H2.out.getC (g := w.heap.size) (u := u) (by simp); clear n5 a5 b5 l5 hqo; have q2 := q1; clear q1))
   | (have _t := q2; go_at_call 12; clear _t; go_loud (refine (cgreat_any _ 1 1 1 [u] _ (cs_one (g := w2.heap.size + 1) u (by have h9 := heap_alloc_new (w2.alloc (.cells #[.slice A5 qn c5] 31)) (.cells #[.bool u.sx, .slice u.ax u.xs.length u.cx, .bool u.sy, .slice u.ay u.ys.length u.cy, .int .u8 u.st] 27); rw [World.size_alloc] at h9; exact h9) ((H2.out.getU (g := w.heap.size) (u := u) (by simp)).below ((Below.refl _ (w2.alloc (.cells #[.slice A5 qn c5] 31))).alloc (Nat.le_refl _) _))) rfl).mono ?_; rintro e w3 ⟨rfl, m3, hw3⟩; rw [HG.out]; have b3 := (show Below (w2.alloc (.cells #[.slice A5 qn c5] 31)).heap.size (w2.alloc (.cells #[.slice A5 qn c5] 31)) w3 by rw [hw3]; exact below_drewN' ((Below.refl _ (w2.alloc (.cells #[.slice A5 qn c5] 31))).alloc (Nat.le_refl _) _) m3); have H3 := Lib.hid (H2.out.step b3); obtain ⟨c0, c1, c2, c3, c4⟩ := H3.out.getC (g := w.heap.size) (u := u) (by simp); clear hw3 b3; have q3 := q2; clear q2))
   | (have _t := q3; go_at_call 13; clear _t; go_loud (refine (rbright_any u.sx u.ax u.cx u.xs _ (H3.out.getU (g := w.heap.size) (u := u) (by simp)).1 (by omega)).mono ?_; rintro e w4 ⟨rfl, b4⟩; rw [HRX.out]; have H4 := Lib.hid (H3.out.step b4); obtain ⟨c0, c1, c2, c3, c4⟩ := H4.out.getC (g := w.heap.size) (u := u) (by simp); clear b4; have q4 := q3; clear q3))
   | (have _t := q4; go_at_call 13; clear _t; go_loud (refine (rbright_any u.sy u.ay u.cy u.ys _ (H4.out.getU (g := w.heap.size) (u := u) (by simp)).2.1 (by omega)).mono ?_; rintro e w5 ⟨rfl, b5⟩; rw [HRY.out]; have H5 := Lib.hid (H4.out.step b5); obtain ⟨c0, c1, c2, c3, c4⟩ := H5.out.getC (g := w.heap.size) (u := u) (by simp); have f5 := (H5.out.alloc (.cells #[] 66)).getB (g := w2.heap.size) (v := .slice A5 qn c5) (by simp); clear b5; have hql := quad_len HM.out (HQO.out (by first | rfl | trivial)); rw [HQN.out] at hql; have HQL := Lib.hid hql; have HQS := Lib.hid (qs_quadOf (HQO.out (by first | rfl | trivial))); clear hql; have q5 := q4; clear q4)))
 go_ret
 exact ⟨rfl, H5.out.b⟩
set_option maxHeartbeats 6400000 in
theorem lcells_yes
  (A : Option Addr) (c n : Nat) (l : List Cv) (u : Cv) (w : World) (h : Cs w A c l) (hn : l.length = n) (hu : CvU w u) (hm : mayB l 30 = true) (hg : greatB [u] 1 = false) (h1 : u.xs.length ≤ 50) (h2 : u.ys.length ≤ 50) (hx : rightI u.sx u.xs = true) (hy : rightI u.sy u.ys = true) :
  Calls Try.prog 3 #[.slice A n c, cvv u] w fun e w' => e = .returned (.bool true) ∧ Below w.heap.size w w' := by
 have hcap := h.cap
 rw [hn] at hcap
 have hv1 := hu.1.cap
 have hv2 := hu.2.1.cap
 have hst := hu.2.2
 have HCS := Lib.hid h
 have HL := Lib.hid hn
 have HC := Lib.hid (Ac.one w u hu)
 have HM := Lib.hid hm
 have q0 : True := trivial
 have HG := Lib.hid hg
 have HRX := Lib.hid hx
 have HRY := Lib.hid hy
 have KX := Lib.hid (right_cn hx)
 have KY := Lib.hid (right_cn hy)
 clear h hn hu hm hg hx hy
 go_enter Try.func3, Try.ntmps3
 go_wp2_with (first
   | (have _t := q0; go_at_call 10; clear _t; go_loud (refine (alive8_any _).mono ?_; rintro e w1 ⟨rfl, b1⟩; have H1 := Lib.hid (HC.out.step b1); obtain ⟨c0, c1, c2, c3, c4⟩ := H1.out.getC (g := w.heap.size) (u := u) (by simp); clear b1; have q1 := q0; clear q0))
   | (have _t := q1; go_at_call 11; clear _t; go_loud (refine (rquad_any A c n 30 l _ (HCS.out.below H1.out.b) HL.out (by omega)).mono ?_; rintro e w2 ⟨A5, c5, qn, q, ok, rfl, l5, n5, a5, b5, hok, -, hqo⟩; rw [HM.out] at hok; subst hok; have hc5 := n5.cap; rw [l5] at hc5; have H2 := Lib.hid (((H1.out.step b5).addN n5).addB (.slice A5 qn c5)); have HA5 := Lib.hid a5; have HQN := Lib.hid l5; have HQO := Lib.hid hqo; obtain ⟨c0, c1, c2, c3, c4⟩ := H2.out.getC (g := w.heap.size) (u := u) (by simp); clear n5 a5 b5 l5 hqo; have q2 := q1; clear q1))
   | (have _t := q2; go_at_call 12; clear _t; go_loud (refine (cgreat_any _ 1 1 1 [u] _ (cs_one (g := w2.heap.size + 1) u (by have h9 := heap_alloc_new (w2.alloc (.cells #[.slice A5 qn c5] 31)) (.cells #[.bool u.sx, .slice u.ax u.xs.length u.cx, .bool u.sy, .slice u.ay u.ys.length u.cy, .int .u8 u.st] 27); rw [World.size_alloc] at h9; exact h9) ((H2.out.getU (g := w.heap.size) (u := u) (by simp)).below ((Below.refl _ (w2.alloc (.cells #[.slice A5 qn c5] 31))).alloc (Nat.le_refl _) _))) rfl).mono ?_; rintro e w3 ⟨rfl, m3, hw3⟩; rw [HG.out]; have b3 := (show Below (w2.alloc (.cells #[.slice A5 qn c5] 31)).heap.size (w2.alloc (.cells #[.slice A5 qn c5] 31)) w3 by rw [hw3]; exact below_drewN' ((Below.refl _ (w2.alloc (.cells #[.slice A5 qn c5] 31))).alloc (Nat.le_refl _) _) m3); have H3 := Lib.hid (H2.out.step b3); obtain ⟨c0, c1, c2, c3, c4⟩ := H3.out.getC (g := w.heap.size) (u := u) (by simp); clear hw3 b3; have q3 := q2; clear q2))
   | (have _t := q3; go_at_call 13; clear _t; go_loud (refine (rbright_any u.sx u.ax u.cx u.xs _ (H3.out.getU (g := w.heap.size) (u := u) (by simp)).1 (by omega)).mono ?_; rintro e w4 ⟨rfl, b4⟩; rw [HRX.out]; have H4 := Lib.hid (H3.out.step b4); obtain ⟨c0, c1, c2, c3, c4⟩ := H4.out.getC (g := w.heap.size) (u := u) (by simp); clear b4; have q4 := q3; clear q3))
   | (have _t := q4; go_at_call 13; clear _t; go_loud (refine (rbright_any u.sy u.ay u.cy u.ys _ (H4.out.getU (g := w.heap.size) (u := u) (by simp)).2.1 (by omega)).mono ?_; rintro e w5 ⟨rfl, b5⟩; rw [HRY.out]; have H5 := Lib.hid (H4.out.step b5); obtain ⟨c0, c1, c2, c3, c4⟩ := H5.out.getC (g := w.heap.size) (u := u) (by simp); have f5 := (H5.out.alloc (.cells #[] 66)).getB (g := w2.heap.size) (v := .slice A5 qn c5) (by simp); clear b5; have hql := quad_len HM.out (HQO.out (by first | rfl | trivial)); rw [HQN.out] at hql; have HQL := Lib.hid hql; have HQS := Lib.hid (qs_quadOf (HQO.out (by first | rfl | trivial))); clear hql; have q5 := q4; clear q4))
   | (at_builtin; go_loud (refine wpList_append_nodes _ rfl _ _ rfl w5.heap.size _ [] q A5 qn c5 rfl rfl (OwnN.start _) ((H5.out.getN (A := A5) (c := c5) (l := q) (by simp)).below ((Below.refl _ w5).alloc (Nat.le_refl _) _)) HQN.out HA5.out (by simp only [List.length_nil]; have := HQL.out; omega) (by simp) ?_; intro v6 w6 ho6 hg6 hk6; rw [List.nil_append] at ho6; obtain ⟨A6, c6, hv6, n6, a6, -⟩ := ho6.shape; rw [HQN.out] at hv6; subst hv6; have hc6 := n6.cap; rw [HQN.out] at hc6; have b6 := ((Below.refl w5.heap.size w5).alloc (Nat.le_refl _) (.cells #[] 66)).grown hg6 (by simp) (fun k hk => by cases hk; exact Nat.le_refl _); have H6 := Lib.hid (((H5.out.step b6).addN n6).addB (.slice A6 qn c6)); have HA6 := Lib.hid a6; obtain ⟨c0, c1, c2, c3, c4⟩ := H6.out.getC (g := w.heap.size) (u := u) (by simp); clear ho6 hg6 hk6 n6 a6 b6))
   | (have _t := q5; go_at_call 14; clear _t; go_loud (refine (set_bw A6 c6 qn q u.bx u.by_ _ _ u.st _ (H6.out.getN (A := A6) (c := c6) (l := q) (by simp)) HQN.out (by have := HQL.out; omega) HA6.out HQS.out (cv_r (H6.out.getU (g := w.heap.size) (u := u) (by simp)) KX.out KY.out).1 (cv_r (H6.out.getU (g := w.heap.size) (u := u) (by simp)) KX.out KY.out).2 (by show u.xs.length ≤ _; omega) (by show u.ys.length ≤ _; omega) hst).mono ?_; rintro e w7 ⟨A7, c7, p, er, rfl, n7, a7, b7, l7, s7⟩; obtain ⟨pn, hpn⟩ : ∃ pn, pn = p.length := ⟨_, rfl⟩; rw [← hpn]; have hc7 := n7.cap; rw [← hpn] at hc7 l7; have H7 := Lib.hid (((H6.out.step b7).addN n7).addB (.slice A7 pn c7)); have HS7 := Lib.hid s7; have HPN := Lib.hid hpn; have f5 := H7.out.getB (g := w2.heap.size) (v := .slice A5 qn c5) (by simp); obtain ⟨c0, c1, c2, c3, c4⟩ := H7.out.getC (g := w.heap.size) (u := u) (by simp); clear n7 a7 b7 s7 hpn; have q6 := q5; clear q5))
   | (have _t := q6; go_at_call 15; clear _t; go_loud (refine (rset_bw A5 c5 qn q u.bx u.by_ _ _ u.st _ (H7.out.getN (A := A5) (c := c5) (l := q) (by simp)) HQN.out (by have := HQL.out; omega) HA5.out HQS.out (cv_r (H7.out.getU (g := w.heap.size) (u := u) (by simp)) KX.out KY.out).1 (cv_r (H7.out.getU (g := w.heap.size) (u := u) (by simp)) KX.out KY.out).2 (by show u.xs.length ≤ _; omega) (by show u.ys.length ≤ _; omega) hst).mono ?_; rintro e w8 ⟨A8, c8, p_, er_, rfl, n8, a8, b8, l8, s8⟩; obtain ⟨ea, eb⟩ := eq_of_setE HS7.out s8; subst ea; subst eb; rw [← HPN.out]; have hc8 := n8.cap; rw [← HPN.out] at hc8; have H8 := Lib.hid (((H7.out.step b8).addN n8).addB (.slice A8 pn c8)); clear n8 a8 b8 s8 l8; have q7 := q6; clear q6)))
 obtain ⟨gc, hgc⟩ : ∃ g, g = w.heap.size := ⟨_, rfl⟩
 obtain ⟨g5, hg5⟩ : ∃ g, g = w2.heap.size := ⟨_, rfl⟩
 obtain ⟨g6, hg6⟩ : ∃ g, g = w6.heap.size := ⟨_, rfl⟩
 obtain ⟨g7, hg7⟩ : ∃ g, g = w7.heap.size := ⟨_, rfl⟩
 obtain ⟨g8, hg8⟩ : ∃ g, g = w8.heap.size := ⟨_, rfl⟩
 obtain ⟨W0, hW0⟩ : ∃ W0 : World, W0 = (w8.alloc (.cells #[.slice A8 pn c8] 31)).drew := ⟨_, rfl⟩
 have T0 := Lib.hid (H8.out.step (Below.drew' (Below.refl _ (w8.alloc (.cells #[.slice A8 pn c8] 31)))))
 rw [← hgc, ← hg5, ← hg6, ← hg7, ← hg8, ← hW0] at T0
 refine wp_region_noPanic ?_
 refine wp_region_held (S := fun w' => w'.cell? ⟨g6, 0, none⟩ = some (.slice A6 qn c6) ∧ w'.cell? ⟨g5, 0, none⟩ = some (.slice A5 qn c5) ∧ w'.cell? ⟨g7, 0, none⟩ = some (.slice A7 pn c7) ∧ w'.cell? ⟨g8, 0, none⟩ = some (.slice A8 pn c8) ∧ w'.cell? ⟨gc, 0, none⟩ = some (.bool u.sx) ∧ w'.cell? ⟨gc, 1, none⟩ = some (.slice u.ax u.xs.length u.cx) ∧ w'.cell? ⟨gc, 2, none⟩ = some (.bool u.sy) ∧ w'.cell? ⟨gc, 3, none⟩ = some (.slice u.ay u.ys.length u.cy)) (by kernel_rfl) ?_
 change wpAnyH _ _ _ _ _ _ _ _ (w8.alloc (.cells #[.slice A8 pn c8] 31)).drew
 rw [← hW0, ← hgc, ← hg5, ← hg6, ← hg7, ← hg8]
 clear hW0 hgc hg5 hg6 hg7 hg8 c0 c1 c2 c3 c4 f5 H1 H2 H3 H4 H5 H6 H7 H8 q7 HC
 have hS := (And.intro (T0.out.getB (g := g6) (v := .slice A6 qn c6) (by simp)) (And.intro (T0.out.getB (g := g5) (v := .slice A5 qn c5) (by simp)) (And.intro (T0.out.getB (g := g7) (v := .slice A7 pn c7) (by simp)) (And.intro (T0.out.getB (g := g8) (v := .slice A8 pn c8) (by simp)) (cells4 (T0.out.getC (g := gc) (u := u) (by simp)))))))
 refine wpAnyH_take (i := 0) (v := ?_) rfl (by kernel_rfl) (by kernel_rfl) (by kernel_rfl) (fun _ _ _ h => h) (Or.inl ⟨by rfl, ?_⟩) hS ?_
 rotate_left
 ·
  rintro w' ⟨s1, s2, s3, s4, s5, s6, s7, s8⟩
  go_simp
  first | done | with_reducible rfl | rfl
 simp only [Act.put, LA]
 refine wpAnyH_take (i := 1) (v := ?_) rfl (by kernel_rfl) (by kernel_rfl) (by kernel_rfl) (fun _ _ _ h => h) (Or.inl ⟨by rfl, ?_⟩) hS ?_
 rotate_left
 ·
  rintro w' ⟨s1, s2, s3, s4, s5, s6, s7, s8⟩
  go_simp
  first | done | with_reducible rfl | rfl
 simp only [Act.put, LA]
 refine wpAnyH_take (i := 2) (v := ?_) rfl (by kernel_rfl) (by kernel_rfl) (by kernel_rfl) (fun _ _ _ h => h) (Or.inl ⟨by rfl, ?_⟩) hS ?_
 rotate_left
 ·
  rintro w' ⟨s1, s2, s3, s4, s5, s6, s7, s8⟩
  go_simp
  first | done | with_reducible rfl | rfl
 simp only [Act.put, LA]
 refine wpAnyH_take (i := 3) (v := ?_) rfl (by kernel_rfl) (by kernel_rfl) (by kernel_rfl) (fun _ _ _ h => h) (Or.inl ⟨by rfl, ?_⟩) hS ?_
 rotate_left
 ·
  rintro w' ⟨s1, s2, s3, s4, s5, s6, s7, s8⟩
  go_simp
  first | done | with_reducible rfl | rfl
 simp only [Act.put, LA]
 refine wpAnyH_take (i := 4) (v := ?_) rfl (by kernel_rfl) (by kernel_rfl) (by kernel_rfl) (fun _ _ _ h => h) (Or.inl ⟨by rfl, ?_⟩) hS ?_
 rotate_left
 ·
  rintro w' ⟨s1, s2, s3, s4, s5, s6, s7, s8⟩
  go_simp
  first | done | with_reducible rfl | rfl
 simp only [Act.put, LA]
 refine wpAnyH_take (i := 6) (v := ?_) rfl (by kernel_rfl) (by kernel_rfl) (by kernel_rfl) (fun _ _ _ h => h) (Or.inl ⟨by rfl, ?_⟩) hS ?_
 rotate_left
 ·
  rintro w' ⟨s1, s2, s3, s4, s5, s6, s7, s8⟩
  go_simp
  first | done | with_reducible rfl | rfl
 simp only [Act.put, LA]
 refine wpAnyH_take (i := 7) (v := ?_) rfl (by kernel_rfl) (by kernel_rfl) (by kernel_rfl) (fun _ _ _ h => h) (Or.inl ⟨by rfl, ?_⟩) hS ?_
 rotate_left
 ·
  rintro w' ⟨s1, s2, s3, s4, s5, s6, s7, s8⟩
  go_simp
  first | done | with_reducible rfl | rfl
 simp only [Act.put, LA]
 refine wpAnyH_take (i := 8) (v := ?_) rfl (by kernel_rfl) (by kernel_rfl) (by kernel_rfl) (fun _ _ _ h => h) (Or.inl ⟨by rfl, ?_⟩) hS ?_
 rotate_left
 ·
  rintro w' ⟨s1, s2, s3, s4, s5, s6, s7, s8⟩
  go_simp
  first | done | with_reducible rfl | rfl
 simp only [Act.put, LA]
 refine wpAnyH_take (i := 9) (v := ?_) rfl (by kernel_rfl) (by kernel_rfl) (by kernel_rfl) (fun _ _ _ h => h) (Or.inl ⟨by rfl, ?_⟩) hS ?_
 rotate_left
 ·
  rintro w' ⟨s1, s2, s3, s4, s5, s6, s7, s8⟩
  go_simp
  first | done | with_reducible rfl | rfl
 simp only [Act.put, LA]
 refine wpAnyH_take (i := 10) (v := ?_) rfl (by kernel_rfl) (by kernel_rfl) (by kernel_rfl) (fun _ _ _ h => h) (Or.inl ⟨by rfl, ?_⟩) hS ?_
 rotate_left
 ·
  rintro w' ⟨s1, s2, s3, s4, s5, s6, s7, s8⟩
  go_simp
  first | done | with_reducible rfl | rfl
 simp only [Act.put, LA]
 refine wpAnyH_ready (rs := [5]) (by kernel_rfl) (by simp) (AllReadyH.cons rfl (fun K hK => ?_) AllReadyH.nil)
 go_simp
 refine (get_bw A6 c6 qn q u.bx u.by_ _ _ _ (T0.out.getN (A := A6) (c := c6) (l := q) (by simp)) HQN.out HQS.out.1 (cv_r (T0.out.getU (g := gc) (u := u) (by simp)) KX.out KY.out).1 (cv_r (T0.out.getU (g := gc) (u := u) (by simp)) KX.out KY.out).2 (by show u.xs.length ≤ _; omega) (by show u.ys.length ≤ _; omega)).mono ?_
 rintro e W1 ⟨rfl, b⟩
 dsimp only
 have T1 := Lib.hid (T0.out.step b)
 clear b
 have hS := (And.intro (T1.out.getB (g := g6) (v := .slice A6 qn c6) (by simp)) (And.intro (T1.out.getB (g := g5) (v := .slice A5 qn c5) (by simp)) (And.intro (T1.out.getB (g := g7) (v := .slice A7 pn c7) (by simp)) (And.intro (T1.out.getB (g := g8) (v := .slice A8 pn c8) (by simp)) (cells4 (T1.out.getC (g := gc) (u := u) (by simp)))))))
 refine hK.out _ _ hS (fun _ => ?_)
 clear hK K
 refine wpAnyH_ready (rs := [11]) (by kernel_rfl) (by simp) (AllReadyH.cons rfl (fun K hK => ?_) AllReadyH.nil)
 go_simp
 refine (rget_lk A5 c5 qn q u.bx u.by_ _ _ _ (T1.out.getN (A := A5) (c := c5) (l := q) (by simp)) HQN.out (by have := HQL.out; omega) HQS.out.1 (cv_r (T1.out.getU (g := gc) (u := u) (by simp)) KX.out KY.out).1 (cv_r (T1.out.getU (g := gc) (u := u) (by simp)) KX.out KY.out).2 (by show u.xs.length ≤ _; omega) (by show u.ys.length ≤ _; omega)).mono ?_
 rintro e W2 ⟨rfl, b⟩
 dsimp only
 have T2 := Lib.hid (T1.out.step b)
 clear b
 have hS := (And.intro (T2.out.getB (g := g6) (v := .slice A6 qn c6) (by simp)) (And.intro (T2.out.getB (g := g5) (v := .slice A5 qn c5) (by simp)) (And.intro (T2.out.getB (g := g7) (v := .slice A7 pn c7) (by simp)) (And.intro (T2.out.getB (g := g8) (v := .slice A8 pn c8) (by simp)) (cells4 (T2.out.getC (g := gc) (u := u) (by simp)))))))
 refine hK.out _ _ hS (fun _ => ?_)
 clear hK K
 refine wpAnyH_take (i := 12) (v := ?_) rfl (by kernel_rfl) (by kernel_rfl) (by kernel_rfl) (fun _ _ _ h => h) (Or.inl ⟨by rfl, ?_⟩) hS ?_
 rotate_left
 ·
  rintro w' ⟨s1, s2, s3, s4, s5, s6, s7, s8⟩
  go_simp
  first | done | with_reducible rfl | rfl
 simp only [Act.put, LA]
 refine wpAnyH_take (i := 13) (v := ?_) rfl (by kernel_rfl) (by kernel_rfl) (by kernel_rfl) (fun _ _ _ h => h) (Or.inl ⟨by rfl, ?_⟩) hS ?_
 rotate_left
 ·
  rintro w' ⟨s1, s2, s3, s4, s5, s6, s7, s8⟩
  go_simp
  first | done | with_reducible rfl | rfl
 simp only [Act.put, LA]
 refine wpAnyH_take (i := 14) (v := ?_) rfl (by kernel_rfl) (by kernel_rfl) (by kernel_rfl) (fun _ _ _ h => h) (Or.inl ⟨by rfl, ?_⟩) hS ?_
 rotate_left
 ·
  rintro w' ⟨s1, s2, s3, s4, s5, s6, s7, s8⟩
  go_simp
  first | done | with_reducible rfl | rfl
 simp only [Act.put, LA]
 refine wpAnyH_take (i := 15) (v := ?_) rfl (by kernel_rfl) (by kernel_rfl) (by kernel_rfl) (fun _ _ _ h => h) (Or.inl ⟨by rfl, ?_⟩) hS ?_
 rotate_left
 ·
  rintro w' ⟨s1, s2, s3, s4, s5, s6, s7, s8⟩
  go_simp
  first | done | with_reducible rfl | rfl
 simp only [Act.put, LA]
 refine wpAnyH_ready (rs := [16]) (by kernel_rfl) (by simp) (AllReadyH.cons rfl (fun K hK => ?_) AllReadyH.nil)
 go_simp
 refine (rsame_any A7 A8 c7 c8 pn pn p p _ (T2.out.getN (A := A7) (c := c7) (l := p) (by simp)) (T2.out.getN (A := A8) (c := c8) (l := p) (by simp)) HPN.out.symm HPN.out.symm).mono ?_
 rintro e W3 ⟨rfl, b⟩
 dsimp only
 rw [show decide (p = p) = true from decide_eq_true rfl]
 have T3 := Lib.hid (T2.out.step b)
 clear b
 have hS := (And.intro (T3.out.getB (g := g6) (v := .slice A6 qn c6) (by simp)) (And.intro (T3.out.getB (g := g5) (v := .slice A5 qn c5) (by simp)) (And.intro (T3.out.getB (g := g7) (v := .slice A7 pn c7) (by simp)) (And.intro (T3.out.getB (g := g8) (v := .slice A8 pn c8) (by simp)) (cells4 (T3.out.getC (g := gc) (u := u) (by simp)))))))
 refine hK.out _ _ hS (fun _ => ?_)
 clear hK K
 refine wpAnyH_take (i := 17) (v := ?_) rfl (by kernel_rfl) (by kernel_rfl) (by kernel_rfl) (fun _ _ _ h => h) (Or.inl ⟨by rfl, ?_⟩) hS ?_
 rotate_left
 ·
  rintro w' ⟨s1, s2, s3, s4, s5, s6, s7, s8⟩
  go_simp
  first | done | with_reducible rfl | rfl
 simp only [Act.put, LA]
 refine wpAnyH_take (i := 18) (v := ?_) rfl (by kernel_rfl) (by kernel_rfl) (by kernel_rfl) (fun _ _ _ h => h) (Or.inl ⟨by rfl, ?_⟩) hS ?_
 rotate_left
 ·
  rintro w' ⟨s1, s2, s3, s4, s5, s6, s7, s8⟩
  go_simp
  first | done | with_reducible rfl | rfl
 simp only [Act.put, LA]
 refine wpAnyH_take (i := 19) (v := ?_) rfl (by kernel_rfl) (by kernel_rfl) (by kernel_rfl) (fun _ _ _ h => h) (Or.inl ⟨by rfl, ?_⟩) hS ?_
 rotate_left
 ·
  rintro w' ⟨s1, s2, s3, s4, s5, s6, s7, s8⟩
  go_simp
  first | done | with_reducible rfl | rfl
 simp only [Act.put, LA]
 refine wpAnyH_take (i := 20) (v := ?_) rfl (by kernel_rfl) (by kernel_rfl) (by kernel_rfl) (fun _ _ _ h => h) (Or.inl ⟨by rfl, ?_⟩) hS ?_
 rotate_left
 ·
  rintro w' ⟨s1, s2, s3, s4, s5, s6, s7, s8⟩
  go_simp
  first | done | with_reducible rfl | rfl
 simp only [Act.put, LA]
 refine wpAnyH_take (i := 21) (v := ?_) rfl (by kernel_rfl) (by kernel_rfl) (by kernel_rfl) (fun _ _ _ h => h) (Or.inl ⟨by rfl, ?_⟩) hS ?_
 rotate_left
 ·
  rintro w' ⟨s1, s2, s3, s4, s5, s6, s7, s8⟩
  go_simp
  first | done | with_reducible rfl | rfl
 simp only [Act.put, LA]
 refine wpAnyH_take (i := 22) (v := ?_) rfl (by kernel_rfl) (by kernel_rfl) (by kernel_rfl) (fun _ _ _ h => h) (Or.inl ⟨by rfl, ?_⟩) hS ?_
 rotate_left
 ·
  rintro w' ⟨s1, s2, s3, s4, s5, s6, s7, s8⟩
  go_simp
  first | done | with_reducible rfl | rfl
 simp only [Act.put, LA]
 refine wpAnyH_take (i := 23) (v := ?_) rfl (by kernel_rfl) (by kernel_rfl) (by kernel_rfl) (fun _ _ _ h => h) (Or.inl ⟨by rfl, ?_⟩) hS ?_
 rotate_left
 ·
  rintro w' ⟨s1, s2, s3, s4, s5, s6, s7, s8⟩
  go_simp
  first | done | with_reducible rfl | rfl
 simp only [Act.put, LA]
 refine wpAnyH_take (i := 24) (v := ?_) rfl (by kernel_rfl) (by kernel_rfl) (by kernel_rfl) (fun _ _ _ h => h) (Or.inl ⟨by rfl, ?_⟩) hS ?_
 rotate_left
 ·
  rintro w' ⟨s1, s2, s3, s4, s5, s6, s7, s8⟩
  go_simp
  first | done | with_reducible rfl | rfl
 simp only [Act.put, LA]
 refine wpAnyH_take (i := 26) (v := ?_) rfl (by kernel_rfl) (by kernel_rfl) (by kernel_rfl) (fun _ _ _ h => h) (Or.inl ⟨by rfl, ?_⟩) hS ?_
 rotate_left
 ·
  rintro w' ⟨s1, s2, s3, s4, s5, s6, s7, s8⟩
  go_simp
  first | done | with_reducible rfl | rfl
 simp only [Act.put, LA]
 refine wpAnyH_ready (rs := [25]) (by kernel_rfl) (by simp) (AllReadyH.cons rfl (fun K hK => ?_) AllReadyH.nil)
 go_simp
 refine (most_lk A6 c6 qn q _ (T3.out.getN (A := A6) (c := c6) (l := q) (by simp)) HQN.out).mono ?_
 rintro e W4 ⟨rfl, b⟩
 dsimp only
 have T4 := Lib.hid (T3.out.step b)
 clear b
 have hS := (And.intro (T4.out.getB (g := g6) (v := .slice A6 qn c6) (by simp)) (And.intro (T4.out.getB (g := g5) (v := .slice A5 qn c5) (by simp)) (And.intro (T4.out.getB (g := g7) (v := .slice A7 pn c7) (by simp)) (And.intro (T4.out.getB (g := g8) (v := .slice A8 pn c8) (by simp)) (cells4 (T4.out.getC (g := gc) (u := u) (by simp)))))))
 refine hK.out _ _ hS (fun _ => ?_)
 clear hK K
 refine wpAnyH_ready (rs := [27]) (by kernel_rfl) (by simp) (AllReadyH.cons rfl (fun K hK => ?_) AllReadyH.nil)
 go_simp
 refine (rmost_lk A5 c5 qn q _ (T4.out.getN (A := A5) (c := c5) (l := q) (by simp)) HQN.out).mono ?_
 rintro e W5 ⟨rfl, b⟩
 dsimp only
 have T5 := Lib.hid (T4.out.step b)
 clear b
 have hS := (And.intro (T5.out.getB (g := g6) (v := .slice A6 qn c6) (by simp)) (And.intro (T5.out.getB (g := g5) (v := .slice A5 qn c5) (by simp)) (And.intro (T5.out.getB (g := g7) (v := .slice A7 pn c7) (by simp)) (And.intro (T5.out.getB (g := g8) (v := .slice A8 pn c8) (by simp)) (cells4 (T5.out.getC (g := gc) (u := u) (by simp)))))))
 refine hK.out _ _ hS (fun _ => ?_)
 clear hK K
 refine wpAnyH_take (i := 28) (v := ?_) rfl (by kernel_rfl) (by kernel_rfl) (by kernel_rfl) (fun _ _ _ h => h) (Or.inl ⟨by rfl, ?_⟩) hS ?_
 rotate_left
 ·
  rintro w' ⟨s1, s2, s3, s4, s5, s6, s7, s8⟩
  go_simp
  first | done | with_reducible rfl | rfl
 simp only [Act.put, LA]
 refine wpAnyH_take (i := 29) (v := ?_) rfl (by kernel_rfl) (by kernel_rfl) (by kernel_rfl) (fun _ _ _ h => h) (Or.inl ⟨by rfl, ?_⟩) hS ?_
 rotate_left
 ·
  rintro w' ⟨s1, s2, s3, s4, s5, s6, s7, s8⟩
  go_simp
  first | done | with_reducible rfl | rfl
 simp only [Act.put, LA]
 refine wpAnyH_take (i := 30) (v := ?_) rfl (by kernel_rfl) (by kernel_rfl) (by kernel_rfl) (fun _ _ _ h => h) (Or.inl ⟨by rfl, ?_⟩) hS ?_
 rotate_left
 ·
  rintro w' ⟨s1, s2, s3, s4, s5, s6, s7, s8⟩
  go_simp
  first | done | with_reducible rfl | rfl
 simp only [Act.put, LA]
 refine wpAnyH_take (i := 31) (v := ?_) rfl (by kernel_rfl) (by kernel_rfl) (by kernel_rfl) (fun _ _ _ h => h) (Or.inl ⟨by rfl, ?_⟩) hS ?_
 rotate_left
 ·
  rintro w' ⟨s1, s2, s3, s4, s5, s6, s7, s8⟩
  go_simp
  first | done | with_reducible rfl | rfl
 simp only [Act.put, LA]
 refine wpAnyH_take (i := 32) (v := ?_) rfl (by kernel_rfl) (by kernel_rfl) (by kernel_rfl) (fun _ _ _ h => h) (Or.inl ⟨by rfl, ?_⟩) hS ?_
 rotate_left
 ·
  rintro w' ⟨s1, s2, s3, s4, s5, s6, s7, s8⟩
  go_simp
  first | done | with_reducible rfl | rfl
 simp only [Act.put, LA]
 refine wpAnyH_ready (rs := [33]) (by kernel_rfl) (by simp) (AllReadyH.cons rfl (fun K hK => ?_) AllReadyH.nil)
 go_simp
 refine (rsame_any A6 A5 c6 c5 qn qn q q _ (T5.out.getN (A := A6) (c := c6) (l := q) (by simp)) (T5.out.getN (A := A5) (c := c5) (l := q) (by simp)) HQN.out HQN.out).mono ?_
 rintro e W6 ⟨rfl, b⟩
 dsimp only
 rw [show decide (q = q) = true from decide_eq_true rfl]
 have T6 := Lib.hid (T5.out.step b)
 clear b
 have hS := (And.intro (T6.out.getB (g := g6) (v := .slice A6 qn c6) (by simp)) (And.intro (T6.out.getB (g := g5) (v := .slice A5 qn c5) (by simp)) (And.intro (T6.out.getB (g := g7) (v := .slice A7 pn c7) (by simp)) (And.intro (T6.out.getB (g := g8) (v := .slice A8 pn c8) (by simp)) (cells4 (T6.out.getC (g := gc) (u := u) (by simp)))))))
 refine hK.out _ _ hS (fun _ => ?_)
 clear hK K
 refine wpAnyH_take (i := 34) (v := ?_) rfl (by kernel_rfl) (by kernel_rfl) (by kernel_rfl) (fun _ _ _ h => h) (Or.inl ⟨by rfl, ?_⟩) hS ?_
 rotate_left
 ·
  rintro w' ⟨s1, s2, s3, s4, s5, s6, s7, s8⟩
  go_simp
  first | done | with_reducible rfl | rfl
 simp only [Act.put, LA]
 refine wpAnyH_take (i := 35) (v := ?_) rfl (by kernel_rfl) (by kernel_rfl) (by kernel_rfl) (fun _ _ _ h => h) (Or.inl ⟨by rfl, ?_⟩) hS ?_
 rotate_left
 ·
  rintro w' ⟨s1, s2, s3, s4, s5, s6, s7, s8⟩
  go_simp
  first | done | with_reducible rfl | rfl
 simp only [Act.put, LA]
 refine wpAnyH_done (by kernel_rfl) ?_ _
 refine NoPanic.normal ?_
 go_wp2_with fail
 go_ret
 exact ⟨rfl, T6.out.b⟩
theorem lcells_law (A : Option Addr) (c : Nat) (l : List Cv) (u : Cv) (w : World) (h : Cs w A c l) (hu : CvU w u) :
  Calls Try.prog 3 #[.slice A l.length c, cvv u] w fun e w' => e = .returned (.bool true) ∧ Below w.heap.size w w' := by
 cases hm : mayB l 30 with
 | false => exact lcells_may A c _ l u w h rfl hu hm
 | true =>
  cases hg : greatB [u] 1 with
  | true => exact lcells_great A c _ l u w h rfl hu hm hg
  | false =>
   obtain ⟨h1, h2⟩ := (great_lens hg).2 u (by simp)
   cases hx : rightI u.sx u.xs with
   | false => exact lcells_badx A c _ l u w h rfl hu hm hg h1 hx
   | true =>
    cases hy : rightI u.sy u.ys with
    | false => exact lcells_bady A c _ l u w h rfl hu hm hg h1 h2 hx hy
    | true => exact lcells_yes A c _ l u w h rfl hu hm hg h1 h2 hx hy
end Go.Proofs.Ytlnmcilcifbcnaa
