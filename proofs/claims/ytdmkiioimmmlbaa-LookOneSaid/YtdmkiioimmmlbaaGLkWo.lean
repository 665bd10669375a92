/-
  look: LookOne, the walk.
-/
import Derived.Test.YtdmkiioimmmlbaaGLkWc
import Derived.Test.YtdmkiioimmmlbaaLay0

namespace Go.Proofs.Ytdmkiioimmmlbaa
set_option maxRecDepth 100000
set_option linter.unusedVariables false
set_option linter.unusedSimpArgs false
open Go.RowKit Num Nds
theorem Ac.two (w : World) (u v : Cv) (h : CvU w u) (k : CvU w v) : Ac w ((w.alloc (.cells #[.bool u.sx, .slice u.ax u.xs.length u.cx, .bool u.sy, .slice u.ay u.ys.length u.cy, .int .u8 u.st] 27)).alloc (.cells #[.bool v.sx, .slice v.ax v.xs.length v.cx, .bool v.sy, .slice v.ay v.ys.length v.cy, .int .u8 v.st] 27)) [] [] [(w.heap.size + 1, v), (w.heap.size, u)] := by
 have b1 := (Below.refl w.heap.size w).alloc (Nat.le_refl _) (.cells #[.bool u.sx, .slice u.ax u.xs.length u.cx, .bool u.sy, .slice u.ay u.ys.length u.cy, .int .u8 u.st] 27)
 have b2 := (Below.refl (w.alloc (.cells #[.bool u.sx, .slice u.ax u.xs.length u.cx, .bool u.sy, .slice u.ay u.ys.length u.cy, .int .u8 u.st] 27)).heap.size (w.alloc (.cells #[.bool u.sx, .slice u.ax u.xs.length u.cx, .bool u.sy, .slice u.ay u.ys.length u.cy, .int .u8 u.st] 27))).alloc (Nat.le_refl _) (.cells #[.bool v.sx, .slice v.ax v.xs.length v.cx, .bool v.sy, .slice v.ay v.ys.length v.cy, .int .u8 v.st] 27)
 refine ⟨((Al.start w).alloc _).alloc _, fun t ht => ?_⟩
 rcases List.mem_cons.1 ht with rfl | ht
 ·
  have h2 := CvAt.new (w.alloc (.cells #[.bool u.sx, .slice u.ax u.xs.length u.cx, .bool u.sy, .slice u.ay u.ys.length u.cy, .int .u8 u.st] 27)) v 27
  rw [World.size_alloc] at h2
  exact ⟨h2, (k.below b1).below b2⟩
 ·
  rw [List.mem_singleton.1 ht]
  exact ⟨(CvAt.new w u 27).below (b2.block _ (by simp)), (h.below b1).below b2⟩
theorem Ac.put {w W : World} {L : List (Option Addr × Nat × List Nd)} {M : List (Nat × Value)} {C : List (Nat × Cv)} (s : Ac w W L M C) {g : Nat} {v : Value} (h : W.heap[g]? = some (.cells #[v] 31)) : Ac w W L ((g, v) :: M) C :=
 ⟨⟨s.al.sn, fun t ht => by
  rcases List.mem_cons.1 ht with rfl | ht
  ·
   exact h
  ·
   exact s.al.bx t ht⟩, s.cb⟩
theorem cs_two {w : World} {g : Nat} (u v : Cv) (h : w.heap[g]? = some (.cells #[.bool u.sx, .slice u.ax u.xs.length u.cx, .bool u.sy, .slice u.ay u.ys.length u.cy, .int .u8 u.st, .bool v.sx, .slice v.ax v.xs.length v.cx, .bool v.sy, .slice v.ay v.ys.length v.cy, .int .u8 v.st] 27)) (hu : CvU w u) (hv : CvU w v) : Cs w (some ⟨g, 0, none⟩) 2 [u, v] := by
 refine ⟨fun x hx => ?_, Nat.le_refl _, by simp [maxLen], fun _ => ⟨g, 0, rfl, (Array.getElem?_eq_some_iff.1 h).1, fun i hi => ?_⟩⟩
 ·
  rcases List.mem_cons.1 hx with rfl | hx
  ·
   exact hu
  ·
   rw [List.mem_singleton.1 hx]
   exact hv
 ·
  match i, hi with
  | 0, _ => refine ⟨?_, ?_, ?_, ?_, ?_⟩ <;> (rw [cell_of_row _ _ _ _ _ _ h]; rfl)
  | 1, _ => refine ⟨?_, ?_, ?_, ?_, ?_⟩ <;> (rw [cell_of_row _ _ _ _ _ _ h]; rfl)
theorem set_back {q p b : List Nd} {X Y s er : Int} (hq : QS q) (hp : SetOf q X Y s p) (h : SetE p X Y (getQ q X Y) er b) : er = 0 ∧ b = q := by
 obtain ⟨h1, h2⟩ := h.yes fun hne => by
  refine (inR_iff rfl).1 ?_
  refine Nat.le_of_not_lt fun h9 => hne (getQ_out hq.1 ?_)
  have := (level_most hq.1).2
  omega
 refine ⟨h1, qs_one h2.1 hq fun x y => ?_⟩
 rw [h2.2, hp.2]
 by_cases hxy : x = X ∧ y = Y
 ·
  rw [if_pos hxy, hxy.1, hxy.2]
  rfl
 ·
  rw [if_neg hxy, if_neg hxy]
theorem same_cv {W : World} {u v : Cv} (h : CvU W u) (k : CvU W v) (kx : CanonI u.sx u.xs) (ky : CanonI u.sy u.ys) (lx : CanonI v.sx v.xs) (ly : CanonI v.sy v.ys) :
  (ival v.sx v.xs = ival u.sx u.xs ∧ ival v.sy v.ys = ival u.sy u.ys) ↔ (decide (u.sx = v.sx ∧ u.xs = v.xs) = true ∧ decide (u.sy = v.sy ∧ u.ys = v.ys) = true) := by
 rw [decide_eq_true_iff, decide_eq_true_iff]
 constructor
 ·
  rintro ⟨e1, e2⟩
  exact ⟨uniqI h.1.1 k.1.1 kx lx e1.symm, uniqI h.2.1.1 k.2.1.1 ky ly e2.symm⟩
 ·
  rintro ⟨⟨e1, e2⟩, e3, e4⟩
  exact ⟨by rw [e1, e2], by rw [e3, e4]⟩
set_option maxRecDepth 100000 in
set_option maxHeartbeats 6400000 in
theorem lone_may
  (A : Option Addr) (c n : Nat) (l : List Cv) (u v : Cv) (w : World) (h : Cs w A c l) (hn : l.length = n) (hu : CvU w u) (hv : CvU w v) (hm : mayB l 30 = false) :
  Calls Try.prog 5 #[.slice A n c, cvv u, cvv v] w fun e w' => e = .returned (.bool true) ∧ Below w.heap.size w w' := by
 have hcap := h.cap
 rw [hn] at hcap
 have hv1 := hu.1.cap
 have hv2 := hu.2.1.cap
 have hv3 := hv.1.cap
 have hv4 := hv.2.1.cap
 have hst := hu.2.2
 have HCS := Lib.hid h
 have HL := Lib.hid hn
 have HC := Lib.hid (Ac.two w u v hu hv)
 have HM := Lib.hid hm
 have q0 : True := trivial
 clear h hn hu hv hm
 go_enter Try.func5, Try.ntmps5
 go_wp2_with (first
   | (have _t := q0; go_at_call 10; clear _t; go_loud (refine (alive8_any _).mono ?_; rintro e w1 ⟨rfl, b1⟩; have H1 := Lib.hid (HC.out.step b1); obtain ⟨c0, c1, c2, c3, c4⟩ := H1.out.getC (g := w.heap.size) (u := u) (by simp); obtain ⟨d0, d1, d2, d3, d4⟩ := H1.out.getC (g := w.heap.size + 1) (u := v) (by simp); clear b1; have q1 := q0; clear q0))
   | (have _t := q1; go_at_call 11; clear _t; go_loud (refine (rquad_any A c n 30 l _ (HCS.out.below H1.out.b) HL.out (by omega)).mono ?_; rintro e w2 ⟨A5, c5, qn, q, ok, rfl, l5, n5, a5, b5, hok, -, hqo⟩; rw [HM.out] at hok; subst hok; have hc5 := n5.cap; rw [l5] at hc5; have H2 := Lib.hid (((H1.out.step b5).addN n5).addB (.slice A5 qn c5)); have HA5 := Lib.hid a5; have HQN := Lib.hid l5; have HQO := Lib.hid hqo; obtain ⟨c0, c1, c2, c3, c4⟩ := H2.out.getC (g := w.heap.size) (u := u) (by simp); obtain ⟨d0, d1, d2, d3, d4⟩ := H2.out.getC (g := w.heap.size + 1) (u := v) (by simp); clear n5 a5 b5 l5 hqo; have q2 := q1; clear q1)))
 go_ret
 exact ⟨rfl, H2.out.b⟩
set_option maxRecDepth 100000 in
set_option maxHeartbeats 6400000 in
theorem lone_great
  (A : Option Addr) (c n : Nat) (l : List Cv) (u v : Cv) (w : World) (h : Cs w A c l) (hn : l.length = n) (hu : CvU w u) (hv : CvU w v) (hm : mayB l 30 = true) (hg : greatB [u, v] 2 = true) :
  Calls Try.prog 5 #[.slice A n c, cvv u, cvv v] w fun e w' => e = .returned (.bool true) ∧ Below w.heap.size w w' := by
 have hcap := h.cap
 rw [hn] at hcap
 have hv1 := hu.1.cap
 have hv2 := hu.2.1.cap
 have hv3 := hv.1.cap
 have hv4 := hv.2.1.cap
 have hst := hu.2.2
 have HCS := Lib.hid h
 have HL := Lib.hid hn
 have HC := Lib.hid (Ac.two w u v hu hv)
 have HM := Lib.hid hm
 have q0 : True := trivial
 have HG := Lib.hid hg
 clear h hn hu hv hm hg
 go_enter Try.func5, Try.ntmps5
 go_wp2_with (first
   | (have _t := q0; go_at_call 10; clear _t; go_loud (refine (alive8_any _).mono ?_; rintro e w1 ⟨rfl, b1⟩; have H1 := Lib.hid (HC.out.step b1); obtain ⟨c0, c1, c2, c3, c4⟩ := H1.out.getC (g := w.heap.size) (u := u) (by simp); obtain ⟨d0, d1, d2, d3, d4⟩ := H1.out.getC (g := w.heap.size + 1) (u := v) (by simp); clear b1; have q1 := q0; clear q0))
   | (have _t := q1; go_at_call 11; clear _t; go_loud (refine (rquad_any A c n 30 l _ (HCS.out.below H1.out.b) HL.out (by omega)).mono ?_; rintro e w2 ⟨A5, c5, qn, q, ok, rfl, l5, n5, a5, b5, hok, -, hqo⟩; rw [HM.out] at hok; subst hok; have hc5 := n5.cap; rw [l5] at hc5; have H2 := Lib.hid (((H1.out.step b5).addN n5).addB (.slice A5 qn c5)); have HA5 := Lib.hid a5; have HQN := Lib.hid l5; have HQO := Lib.hid hqo; obtain ⟨c0, c1, c2, c3, c4⟩ := H2.out.getC (g := w.heap.size) (u := u) (by simp); obtain ⟨d0, d1, d2, d3, d4⟩ := H2.out.getC (g := w.heap.size + 1) (u := v) (by simp); clear n5 a5 b5 l5 hqo; have q2 := q1; clear q1))
   | (have _t := q2; go_at_call 12; clear _t; go_loud (refine (cgreat_any _ 2 2 2 [u, v] _ (cs_two (g := w2.heap.size + 1) u v (by have h9 := heap_alloc_new (w2.alloc (.cells #[.slice A5 qn c5] 31)) (.cells #[.bool u.sx, .slice u.ax u.xs.length u.cx, .bool u.sy, .slice u.ay u.ys.length u.cy, .int .u8 u.st, .bool v.sx, .slice v.ax v.xs.length v.cx, .bool v.sy, .slice v.ay v.ys.length v.cy, .int .u8 v.st] 27); rw [World.size_alloc] at h9; exact h9) ((H2.out.getU (g := w.heap.size) (u := u) (by simp)).below ((Below.refl _ (w2.alloc (.cells #[.slice A5 qn c5] 31))).alloc (Nat.le_refl _) _)) ((H2.out.getU (g := w.heap.size + 1) (u := v) (by simp)).below ((Below.refl _ (w2.alloc (.cells #[.slice A5 qn c5] 31))).alloc (Nat.le_refl _) _))) rfl).mono ?_; rintro e w3 ⟨rfl, m3, hw3⟩; rw [HG.out]; have b3 := (show Below (w2.alloc (.cells #[.slice A5 qn c5] 31)).heap.size (w2.alloc (.cells #[.slice A5 qn c5] 31)) w3 by rw [hw3]; exact below_drewN' ((Below.refl _ (w2.alloc (.cells #[.slice A5 qn c5] 31))).alloc (Nat.le_refl _) _) m3); have H3 := Lib.hid (H2.out.step b3); obtain ⟨c0, c1, c2, c3, c4⟩ := H3.out.getC (g := w.heap.size) (u := u) (by simp); obtain ⟨d0, d1, d2, d3, d4⟩ := H3.out.getC (g := w.heap.size + 1) (u := v) (by simp); clear hw3 b3; have q3 := q2; clear q2)))
 go_ret
 exact ⟨rfl, H3.out.b⟩
set_option maxRecDepth 100000 in
set_option maxHeartbeats 6400000 in
theorem lone_bad1
  (A : Option Addr) (c n : Nat) (l : List Cv) (u v : Cv) (w : World) (h : Cs w A c l) (hn : l.length = n) (hu : CvU w u) (hv : CvU w v) (hm : mayB l 30 = true) (hg : greatB [u, v] 2 = false) (h1 : u.xs.length ≤ 50) (h2 : u.ys.length ≤ 50) (h3 : v.xs.length ≤ 50) (h4 : v.ys.length ≤ 50) (r1 : rightI u.sx u.xs = false) :
  Calls Try.prog 5 #[.slice A n c, cvv u, cvv v] w fun e w' => e = .returned (.bool true) ∧ Below w.heap.size w w' := by
 have hcap := h.cap
 rw [hn] at hcap
 have hv1 := hu.1.cap
 have hv2 := hu.2.1.cap
 have hv3 := hv.1.cap
 have hv4 := hv.2.1.cap
 have hst := hu.2.2
 have HCS := Lib.hid h
 have HL := Lib.hid hn
 have HC := Lib.hid (Ac.two w u v hu hv)
 have HM := Lib.hid hm
 have q0 : True := trivial
 have HG := Lib.hid hg
 have HR1 := Lib.hid r1
 clear h hn hu hv hm hg r1
 go_enter Try.func5, Try.ntmps5
 go_wp2_with (first
   | (have _t := q0; go_at_call 10; clear _t; go_loud (refine (alive8_any _).mono ?_; rintro e w1 ⟨rfl, b1⟩; have H1 := Lib.hid (HC.out.step b1); obtain ⟨c0, c1, c2, c3, c4⟩ := H1.out.getC (g := w.heap.size) (u := u) (by simp); obtain ⟨d0, d1, d2, d3, d4⟩ := H1.out.getC (g := w.heap.size + 1) (u := v) (by simp); clear b1; have q1 := q0; clear q0))
   | (have _t := q1; go_at_call 11; clear _t; go_loud (refine (rquad_any A c n 30 l _ (HCS.out.below H1.out.b) HL.out (by omega)).mono ?_; rintro e w2 ⟨A5, c5, qn, q, ok, rfl, l5, n5, a5, b5, hok, -, hqo⟩; rw [HM.out] at hok; subst hok; have hc5 := n5.cap; rw [l5] at hc5; have H2 := Lib.hid (((H1.out.step b5).addN n5).addB (.slice A5 qn c5)); have HA5 := Lib.hid a5; have HQN := Lib.hid l5; have HQO := Lib.hid hqo; obtain ⟨c0, c1, c2, c3, c4⟩ := H2.out.getC (g := w.heap.size) (u := u) (by simp); obtain ⟨d0, d1, d2, d3, d4⟩ := H2.out.getC (g := w.heap.size + 1) (u := v) (by simp); clear n5 a5 b5 l5 hqo; have q2 := q1; clear q1))
   | (have _t := q2; go_at_call 12; clear _t; go_loud (refine (cgreat_any _ 2 2 2 [u, v] _ (cs_two (g := w2.heap.size + 1) u v (by have h9 := heap_alloc_new (w2.alloc (.cells #[.slice A5 qn c5] 31)) (.cells #[.bool u.sx, .slice u.ax u.xs.length u.cx, .bool u.sy, .slice u.ay u.ys.length u.cy, .int .u8 u.st, .bool v.sx, .slice v.ax v.xs.length v.cx, .bool v.sy, .slice v.ay v.ys.length v.cy, .int .u8 v.st] 27); rw [World.size_alloc] at h9; exact h9) ((H2.out.getU (g := w.heap.size) (u := u) (by simp)).below ((Below.refl _ (w2.alloc (.cells #[.slice A5 qn c5] 31))).alloc (Nat.le_refl _) _)) ((H2.out.getU (g := w.heap.size + 1) (u := v) (by simp)).below ((Below.refl _ (w2.alloc (.cells #[.slice A5 qn c5] 31))).alloc (Nat.le_refl _) _))) rfl).mono ?_; rintro e w3 ⟨rfl, m3, hw3⟩; rw [HG.out]; have b3 := (show Below (w2.alloc (.cells #[.slice A5 qn c5] 31)).heap.size (w2.alloc (.cells #[.slice A5 qn c5] 31)) w3 by rw [hw3]; exact below_drewN' ((Below.refl _ (w2.alloc (.cells #[.slice A5 qn c5] 31))).alloc (Nat.le_refl _) _) m3); have H3 := Lib.hid (H2.out.step b3); obtain ⟨c0, c1, c2, c3, c4⟩ := H3.out.getC (g := w.heap.size) (u := u) (by simp); obtain ⟨d0, d1, d2, d3, d4⟩ := H3.out.getC (g := w.heap.size + 1) (u := v) (by simp); clear hw3 b3; have q3 := q2; clear q2))
   | (have _t := q3; go_at_call 13; clear _t; go_loud (refine (rbright_any u.sx u.ax u.cx u.xs _ (H3.out.getU (g := w.heap.size) (u := u) (by simp)).1 (by omega)).mono ?_; rintro e wr_ ⟨rfl, b_⟩; rw [HR1.out]; have H4 := Lib.hid (H3.out.step b_); obtain ⟨c0, c1, c2, c3, c4⟩ := H4.out.getC (g := w.heap.size) (u := u) (by simp); obtain ⟨d0, d1, d2, d3, d4⟩ := H4.out.getC (g := w.heap.size + 1) (u := v) (by simp); clear b_; have q4 := q3; clear q3)))
 go_ret
 exact ⟨rfl, H4.out.b⟩
set_option maxRecDepth 100000 in
set_option maxHeartbeats 6400000 in
theorem lone_bad2
  (A : Option Addr) (c n : Nat) (l : List Cv) (u v : Cv) (w : World) (h : Cs w A c l) (hn : l.length = n) (hu : CvU w u) (hv : CvU w v) (hm : mayB l 30 = true) (hg : greatB [u, v] 2 = false) (h1 : u.xs.length ≤ 50) (h2 : u.ys.length ≤ 50) (h3 : v.xs.length ≤ 50) (h4 : v.ys.length ≤ 50) (r1 : rightI u.sx u.xs = true) (r2 : rightI u.sy u.ys = false) :
  Calls Try.prog 5 #[.slice A n c, cvv u, cvv v] w fun e w' => e = .returned (.bool true) ∧ Below w.heap.size w w' := by
 have hcap := h.cap
 rw [hn] at hcap
 have hv1 := hu.1.cap
 have hv2 := hu.2.1.cap
 have hv3 := hv.1.cap
 have hv4 := hv.2.1.cap
 have hst := hu.2.2
 have HCS := Lib.hid h
 have HL := Lib.hid hn
 have HC := Lib.hid (Ac.two w u v hu hv)
 have HM := Lib.hid hm
 have q0 : True := trivial
 have HG := Lib.hid hg
 have HR1 := Lib.hid r1
 have HR2 := Lib.hid r2
 clear h hn hu hv hm hg r1 r2
 go_enter Try.func5, Try.ntmps5
 go_wp2_with (first
   | (have _t := q0; go_at_call 10; clear _t; go_loud (refine (alive8_any _).mono ?_; rintro e w1 ⟨rfl, b1⟩; have H1 := Lib.hid (HC.out.step b1); obtain ⟨c0, c1, c2, c3, c4⟩ := H1.out.getC (g := w.heap.size) (u := u) (by simp); obtain ⟨d0, d1, d2, d3, d4⟩ := H1.out.getC (g := w.heap.size + 1) (u := v) (by simp); clear b1; have q1 := q0; clear q0))
   | (have _t := q1; go_at_call 11; clear _t; go_loud (refine (rquad_any A c n 30 l _ (HCS.out.below H1.out.b) HL.out (by omega)).mono ?_; rintro e w2 ⟨A5, c5, qn, q, ok, rfl, l5, n5, a5, b5, hok, -, hqo⟩; rw [HM.out] at hok; subst hok; have hc5 := n5.cap; rw [l5] at hc5; have H2 := Lib.hid (((H1.out.step b5).addN n5).addB (.slice A5 qn c5)); have HA5 := Lib.hid a5; have HQN := Lib.hid l5; have HQO := Lib.hid hqo; obtain ⟨c0, c1, c2, c3, c4⟩ := H2.out.getC (g := w.heap.size) (u := u) (by simp); obtain ⟨d0, d1, d2, d3, d4⟩ := H2.out.getC (g := w.heap.size + 1) (u := v) (by simp); clear n5 a5 b5 l5 hqo; have q2 := q1; clear q1))
   | (have _t := q2; go_at_call 12; clear _t; go_loud (refine (cgreat_any _ 2 2 2 [u, v] _ (cs_two (g := w2.heap.size + 1) u v (by have h9 := heap_alloc_new (w2.alloc (.cells #[.slice A5 qn c5] 31)) (.cells #[.bool u.sx, .slice u.ax u.xs.length u.cx, .bool u.sy, .slice u.ay u.ys.length u.cy, .int .u8 u.st, .bool v.sx, .slice v.ax v.xs.length v.cx, .bool v.sy, .slice v.ay v.ys.length v.cy, .int .u8 v.st] 27); rw [World.size_alloc] at h9; exact h9) ((H2.out.getU (g := w.heap.size) (u := u) (by simp)).below ((Below.refl _ (w2.alloc (.cells #[.slice A5 qn c5] 31))).alloc (Nat.le_refl _) _)) ((H2.out.getU (g := w.heap.size + 1) (u := v) (by simp)).below ((Below.refl _ (w2.alloc (.cells #[.slice A5 qn c5] 31))).alloc (Nat.le_refl _) _))) rfl).mono ?_; rintro e w3 ⟨rfl, m3, hw3⟩; rw [HG.out]; have b3 := (show Below (w2.alloc (.cells #[.slice A5 qn c5] 31)).heap.size (w2.alloc (.cells #[.slice A5 qn c5] 31)) w3 by rw [hw3]; exact below_drewN' ((Below.refl _ (w2.alloc (.cells #[.slice A5 qn c5] 31))).alloc (Nat.le_refl _) _) m3); have H3 := Lib.hid (H2.out.step b3); obtain ⟨c0, c1, c2, c3, c4⟩ := H3.out.getC (g := w.heap.size) (u := u) (by simp); obtain ⟨d0, d1, d2, d3, d4⟩ := H3.out.getC (g := w.heap.size + 1) (u := v) (by simp); clear hw3 b3; have q3 := q2; clear q2))
   | (have _t := q3; go_at_call 13; clear _t; go_loud (refine (rbright_any u.sx u.ax u.cx u.xs _ (H3.out.getU (g := w.heap.size) (u := u) (by simp)).1 (by omega)).mono ?_; rintro e wr_ ⟨rfl, b_⟩; rw [HR1.out]; have H4 := Lib.hid (H3.out.step b_); obtain ⟨c0, c1, c2, c3, c4⟩ := H4.out.getC (g := w.heap.size) (u := u) (by simp); obtain ⟨d0, d1, d2, d3, d4⟩ := H4.out.getC (g := w.heap.size + 1) (u := v) (by simp); clear b_; have q4 := q3; clear q3))
   | (have _t := q4; go_at_call 13; clear _t; go_loud (refine (rbright_any u.sy u.ay u.cy u.ys _ (H4.out.getU (g := w.heap.size) (u := u) (by simp)).2.1 (by omega)).mono ?_; rintro e wr_ ⟨rfl, b_⟩; rw [HR2.out]; have H5 := Lib.hid (H4.out.step b_); obtain ⟨c0, c1, c2, c3, c4⟩ := H5.out.getC (g := w.heap.size) (u := u) (by simp); obtain ⟨d0, d1, d2, d3, d4⟩ := H5.out.getC (g := w.heap.size + 1) (u := v) (by simp); clear b_; have q5 := q4; clear q4)))
 go_ret
 exact ⟨rfl, H5.out.b⟩
set_option maxRecDepth 100000 in
set_option maxHeartbeats 6400000 in
theorem lone_bad3
  (A : Option Addr) (c n : Nat) (l : List Cv) (u v : Cv) (w : World) (h : Cs w A c l) (hn : l.length = n) (hu : CvU w u) (hv : CvU w v) (hm : mayB l 30 = true) (hg : greatB [u, v] 2 = false) (h1 : u.xs.length ≤ 50) (h2 : u.ys.length ≤ 50) (h3 : v.xs.length ≤ 50) (h4 : v.ys.length ≤ 50) (r1 : rightI u.sx u.xs = true) (r2 : rightI u.sy u.ys = true) (r3 : rightI v.sx v.xs = false) :
  Calls Try.prog 5 #[.slice A n c, cvv u, cvv v] w fun e w' => e = .returned (.bool true) ∧ Below w.heap.size w w' := by
 have hcap := h.cap
 rw [hn] at hcap
 have hv1 := hu.1.cap
 have hv2 := hu.2.1.cap
 have hv3 := hv.1.cap
 have hv4 := hv.2.1.cap
 have hst := hu.2.2
 have HCS := Lib.hid h
 have HL := Lib.hid hn
 have HC := Lib.hid (Ac.two w u v hu hv)
 have HM := Lib.hid hm
 have q0 : True := trivial
 have HG := Lib.hid hg
 have HR1 := Lib.hid r1
 have HR2 := Lib.hid r2
 have HR3 := Lib.hid r3
 clear h hn hu hv hm hg r1 r2 r3
 go_enter Try.func5, Try.ntmps5
 go_wp2_with (first
   | (have _t := q0; go_at_call 10; clear _t; go_loud (refine (alive8_any _).mono ?_; rintro e w1 ⟨rfl, b1⟩; have H1 := Lib.hid (HC.out.step b1); obtain ⟨c0, c1, c2, c3, c4⟩ := H1.out.getC (g := w.heap.size) (u := u) (by simp); obtain ⟨d0, d1, d2, d3, d4⟩ := H1.out.getC (g := w.heap.size + 1) (u := v) (by simp); clear b1; have q1 := q0; clear q0))
   | (have _t := q1; go_at_call 11; clear _t; go_loud (refine (rquad_any A c n 30 l _ (HCS.out.below H1.out.b) HL.out (by omega)).mono ?_; rintro e w2 ⟨A5, c5, qn, q, ok, rfl, l5, n5, a5, b5, hok, -, hqo⟩; rw [HM.out] at hok; subst hok; have hc5 := n5.cap; rw [l5] at hc5; have H2 := Lib.hid (((H1.out.step b5).addN n5).addB (.slice A5 qn c5)); have HA5 := Lib.hid a5; have HQN := Lib.hid l5; have HQO := Lib.hid hqo; obtain ⟨c0, c1, c2, c3, c4⟩ := H2.out.getC (g := w.heap.size) (u := u) (by simp); obtain ⟨d0, d1, d2, d3, d4⟩ := H2.out.getC (g := w.heap.size + 1) (u := v) (by simp); clear n5 a5 b5 l5 hqo; have q2 := q1; clear q1))
   | (have _t := q2; go_at_call 12; clear _t; go_loud (refine (cgreat_any _ 2 2 2 [u, v] _ (cs_two (g := w2.heap.size + 1) u v (by have h9 := heap_alloc_new (w2.alloc (.cells #[.slice A5 qn c5] 31)) (.cells #[.bool u.sx, .slice u.ax u.xs.length u.cx, .bool u.sy, .slice u.ay u.ys.length u.cy, .int .u8 u.st, .bool v.sx, .slice v.ax v.xs.length v.cx, .bool v.sy, .slice v.ay v.ys.length v.cy, .int .u8 v.st] 27); rw [World.size_alloc] at h9; exact h9) ((H2.out.getU (g := w.heap.size) (u := u) (by simp)).below ((Below.refl _ (w2.alloc (.cells #[.slice A5 qn c5] 31))).alloc (Nat.le_refl _) _)) ((H2.out.getU (g := w.heap.size + 1) (u := v) (by simp)).below ((Below.refl _ (w2.alloc (.cells #[.slice A5 qn c5] 31))).alloc (Nat.le_refl _) _))) rfl).mono ?_; rintro e w3 ⟨rfl, m3, hw3⟩; rw [HG.out]; have b3 := (show Below (w2.alloc (.cells #[.slice A5 qn c5] 31)).heap.size (w2.alloc (.cells #[.slice A5 qn c5] 31)) w3 by rw [hw3]; exact below_drewN' ((Below.refl _ (w2.alloc (.cells #[.slice A5 qn c5] 31))).alloc (Nat.le_refl _) _) m3); have H3 := Lib.hid (H2.out.step b3); obtain ⟨c0, c1, c2, c3, c4⟩ := H3.out.getC (g := w.heap.size) (u := u) (by simp); obtain ⟨d0, d1, d2, d3, d4⟩ := H3.out.getC (g := w.heap.size + 1) (u := v) (by simp); clear hw3 b3; have q3 := q2; clear q2))
   | (have _t := q3; go_at_call 13; clear _t; go_loud (refine (rbright_any u.sx u.ax u.cx u.xs _ (H3.out.getU (g := w.heap.size) (u := u) (by simp)).1 (by omega)).mono ?_; rintro e wr_ ⟨rfl, b_⟩; rw [HR1.out]; have H4 := Lib.hid (H3.out.step b_); obtain ⟨c0, c1, c2, c3, c4⟩ := H4.out.getC (g := w.heap.size) (u := u) (by simp); obtain ⟨d0, d1, d2, d3, d4⟩ := H4.out.getC (g := w.heap.size + 1) (u := v) (by simp); clear b_; have q4 := q3; clear q3))
   | (have _t := q4; go_at_call 13; clear _t; go_loud (refine (rbright_any u.sy u.ay u.cy u.ys _ (H4.out.getU (g := w.heap.size) (u := u) (by simp)).2.1 (by omega)).mono ?_; rintro e wr_ ⟨rfl, b_⟩; rw [HR2.out]; have H5 := Lib.hid (H4.out.step b_); obtain ⟨c0, c1, c2, c3, c4⟩ := H5.out.getC (g := w.heap.size) (u := u) (by simp); obtain ⟨d0, d1, d2, d3, d4⟩ := H5.out.getC (g := w.heap.size + 1) (u := v) (by simp); clear b_; have q5 := q4; clear q4))
   | (have _t := q5; go_at_call 13; clear _t; go_loud (refine (rbright_any v.sx v.ax v.cx v.xs _ (H5.out.getU (g := w.heap.size + 1) (u := v) (by simp)).1 (by omega)).mono ?_; rintro e wr_ ⟨rfl, b_⟩; rw [HR3.out]; have H6 := Lib.hid (H5.out.step b_); obtain ⟨c0, c1, c2, c3, c4⟩ := H6.out.getC (g := w.heap.size) (u := u) (by simp); obtain ⟨d0, d1, d2, d3, d4⟩ := H6.out.getC (g := w.heap.size + 1) (u := v) (by simp); clear b_; have q6 := q5; clear q5)))
 go_ret
 exact ⟨rfl, H6.out.b⟩
set_option maxRecDepth 100000 in
set_option maxHeartbeats 6400000 in
theorem lone_bad4
  (A : Option Addr) (c n : Nat) (l : List Cv) (u v : Cv) (w : World) (h : Cs w A c l) (hn : l.length = n) (hu : CvU w u) (hv : CvU w v) (hm : mayB l 30 = true) (hg : greatB [u, v] 2 = false) (h1 : u.xs.length ≤ 50) (h2 : u.ys.length ≤ 50) (h3 : v.xs.length ≤ 50) (h4 : v.ys.length ≤ 50) (r1 : rightI u.sx u.xs = true) (r2 : rightI u.sy u.ys = true) (r3 : rightI v.sx v.xs = true) (r4 : rightI v.sy v.ys = false) :
  Calls Try.prog 5 #[.slice A n c, cvv u, cvv v] w fun e w' => e = .returned (.bool true) ∧ Below w.heap.size w w' := by
 have hcap := h.cap
 rw [hn] at hcap
 have hv1 := hu.1.cap
 have hv2 := hu.2.1.cap
 have hv3 := hv.1.cap
 have hv4 := hv.2.1.cap
 have hst := hu.2.2
 have HCS := Lib.hid h
 have HL := Lib.hid hn
 have HC := Lib.hid (Ac.two w u v hu hv)
 have HM := Lib.hid hm
 have q0 : True := trivial
 have HG := Lib.hid hg
 have HR1 := Lib.hid r1
 have HR2 := Lib.hid r2
 have HR3 := Lib.hid r3
 have HR4 := Lib.hid r4
 clear h hn hu hv hm hg r1 r2 r3 r4
 go_enter Try.func5, Try.ntmps5
 go_wp2_with (first
   | (have _t := q0; go_at_call 10; clear _t; go_loud (refine (alive8_any _).mono ?_; rintro e w1 ⟨rfl, b1⟩; have H1 := Lib.hid (HC.out.step b1); obtain ⟨c0, c1, c2, c3, c4⟩ := H1.out.getC (g := w.heap.size) (u := u) (by simp); obtain ⟨d0, d1, d2, d3, d4⟩ := H1.out.getC (g := w.heap.size + 1) (u := v) (by simp); clear b1; have q1 := q0; clear q0))
   | (have _t := q1; go_at_call 11; clear _t; go_loud (refine (rquad_any A c n 30 l _ (HCS.out.below H1.out.b) HL.out (by omega)).mono ?_; rintro e w2 ⟨A5, c5, qn, q, ok, rfl, l5, n5, a5, b5, hok, -, hqo⟩; rw [HM.out] at hok; subst hok; have hc5 := n5.cap; rw [l5] at hc5; have H2 := Lib.hid (((H1.out.step b5).addN n5).addB (.slice A5 qn c5)); have HA5 := Lib.hid a5; have HQN := Lib.hid l5; have HQO := Lib.hid hqo; obtain ⟨c0, c1, c2, c3, c4⟩ := H2.out.getC (g := w.heap.size) (u := u) (by simp); obtain ⟨d0, d1, d2, d3, d4⟩ := H2.out.getC (g := w.heap.size + 1) (u := v) (by simp); clear n5 a5 b5 l5 hqo; have q2 := q1; clear q1))
   | (have _t := q2; go_at_call 12; clear _t; go_loud (refine (cgreat_any _ 2 2 2 [u, v] _ (cs_two (g := w2.heap.size + 1) u v (by have h9 := heap_alloc_new (w2.alloc (.cells #[.slice A5 qn c5] 31)) (.cells #[.bool u.sx, .slice u.ax u.xs.length u.cx, .bool u.sy, .slice u.ay u.ys.length u.cy, .int .u8 u.st, .bool v.sx, .slice v.ax v.xs.length v.cx, .bool v.sy, .slice v.ay v.ys.length v.cy, .int .u8 v.st] 27); rw [World.size_alloc] at h9; exact h9) ((H2.out.getU (g := w.heap.size) (u := u) (by simp)).below ((Below.refl _ (w2.alloc (.cells #[.slice A5 qn c5] 31))).alloc (Nat.le_refl _) _)) ((H2.out.getU (g := w.heap.size + 1) (u := v) (by simp)).below ((Below.refl _ (w2.alloc (.cells #[.slice A5 qn c5] 31))).alloc (Nat.le_refl _) _))) rfl).mono ?_; rintro e w3 ⟨rfl, m3, hw3⟩; rw [HG.out]; have b3 := (show Below (w2.alloc (.cells #[.slice A5 qn c5] 31)).heap.size (w2.alloc (.cells #[.slice A5 qn c5] 31)) w3 by rw [hw3]; exact below_drewN' ((Below.refl _ (w2.alloc (.cells #[.slice A5 qn c5] 31))).alloc (Nat.le_refl _) _) m3); have H3 := Lib.hid (H2.out.step b3); obtain ⟨c0, c1, c2, c3, c4⟩ := H3.out.getC (g := w.heap.size) (u := u) (by simp); obtain ⟨d0, d1, d2, d3, d4⟩ := H3.out.getC (g := w.heap.size + 1) (u := v) (by simp); clear hw3 b3; have q3 := q2; clear q2))
   | (have _t := q3; go_at_call 13; clear _t; go_loud (refine (rbright_any u.sx u.ax u.cx u.xs _ (H3.out.getU (g := w.heap.size) (u := u) (by simp)).1 (by omega)).mono ?_; rintro e wr_ ⟨rfl, b_⟩; rw [HR1.out]; have H4 := Lib.hid (H3.out.step b_); obtain ⟨c0, c1, c2, c3, c4⟩ := H4.out.getC (g := w.heap.size) (u := u) (by simp); obtain ⟨d0, d1, d2, d3, d4⟩ := H4.out.getC (g := w.heap.size + 1) (u := v) (by simp); clear b_; have q4 := q3; clear q3))
   | (have _t := q4; go_at_call 13; clear _t; go_loud (refine (rbright_any u.sy u.ay u.cy u.ys _ (H4.out.getU (g := w.heap.size) (u := u) (by simp)).2.1 (by omega)).mono ?_; rintro e wr_ ⟨rfl, b_⟩; rw [HR2.out]; have H5 := Lib.hid (H4.out.step b_); obtain ⟨c0, c1, c2, c3, c4⟩ := H5.out.getC (g := w.heap.size) (u := u) (by simp); obtain ⟨d0, d1, d2, d3, d4⟩ := H5.out.getC (g := w.heap.size + 1) (u := v) (by simp); clear b_; have q5 := q4; clear q4))
   | (have _t := q5; go_at_call 13; clear _t; go_loud (refine (rbright_any v.sx v.ax v.cx v.xs _ (H5.out.getU (g := w.heap.size + 1) (u := v) (by simp)).1 (by omega)).mono ?_; rintro e wr_ ⟨rfl, b_⟩; rw [HR3.out]; have H6 := Lib.hid (H5.out.step b_); obtain ⟨c0, c1, c2, c3, c4⟩ := H6.out.getC (g := w.heap.size) (u := u) (by simp); obtain ⟨d0, d1, d2, d3, d4⟩ := H6.out.getC (g := w.heap.size + 1) (u := v) (by simp); clear b_; have q6 := q5; clear q5))
   | (have _t := q6; go_at_call 13; clear _t; go_loud (refine (rbright_any v.sy v.ay v.cy v.ys _ (H6.out.getU (g := w.heap.size + 1) (u := v) (by simp)).2.1 (by omega)).mono ?_; rintro e wr_ ⟨rfl, b_⟩; rw [HR4.out]; have H7 := Lib.hid (H6.out.step b_); obtain ⟨c0, c1, c2, c3, c4⟩ := H7.out.getC (g := w.heap.size) (u := u) (by simp); obtain ⟨d0, d1, d2, d3, d4⟩ := H7.out.getC (g := w.heap.size + 1) (u := v) (by simp); clear b_; have hql := quad_len HM.out (HQO.out (by first | rfl | trivial)); rw [HQN.out] at hql; have HQL := Lib.hid hql; have HQS := Lib.hid (qs_quadOf (HQO.out (by first | rfl | trivial))); clear hql; have f5 := H7.out.getB (g := w2.heap.size) (v := .slice A5 qn c5) (by simp); have q7 := q6; clear q6)))
 go_ret
 exact ⟨rfl, H7.out.b⟩
set_option maxRecDepth 100000 in
set_option maxHeartbeats 6400000 in
theorem lone_far
  (A : Option Addr) (c n : Nat) (l : List Cv) (u v : Cv) (w : World) (h : Cs w A c l) (hn : l.length = n) (hu : CvU w u) (hv : CvU w v) (hm : mayB l 30 = true) (hg : greatB [u, v] 2 = false) (h1 : u.xs.length ≤ 50) (h2 : u.ys.length ≤ 50) (h3 : v.xs.length ≤ 50) (h4 : v.ys.length ≤ 50) (r1 : rightI u.sx u.xs = true) (r2 : rightI u.sy u.ys = true) (r3 : rightI v.sx v.xs = true) (r4 : rightI v.sy v.ys = true) (hf : (u.st : Int) ≠ 0 ∧ ¬ (inR (ival u.sx u.xs) ∧ inR (ival u.sy u.ys))) :
  Calls Try.prog 5 #[.slice A n c, cvv u, cvv v] w fun e w' => e = .returned (.bool true) ∧ Below w.heap.size w w' := by
 have hcap := h.cap
 rw [hn] at hcap
 have hv1 := hu.1.cap
 have hv2 := hu.2.1.cap
 have hv3 := hv.1.cap
 have hv4 := hv.2.1.cap
 have hst := hu.2.2
 have HCS := Lib.hid h
 have HL := Lib.hid hn
 have HC := Lib.hid (Ac.two w u v hu hv)
 have HM := Lib.hid hm
 have q0 : True := trivial
 have HG := Lib.hid hg
 have HR1 := Lib.hid r1
 have K1 := Lib.hid (right_cn r1)
 have HR2 := Lib.hid r2
 have K2 := Lib.hid (right_cn r2)
 have HR3 := Lib.hid r3
 have K3 := Lib.hid (right_cn r3)
 have HR4 := Lib.hid r4
 have K4 := Lib.hid (right_cn r4)
 have HFAR := Lib.hid hf
 have te : ((4 : Int) != 0) = true := rfl
 clear h hn hu hv hm hg r1 r2 r3 r4 hf
 go_enter Try.func5, Try.ntmps5
 go_wp2_with (first
   | (have _t := q0; go_at_call 10; clear _t; go_loud (refine (alive8_any _).mono ?_; rintro e w1 ⟨rfl, b1⟩; have H1 := Lib.hid (HC.out.step b1); obtain ⟨c0, c1, c2, c3, c4⟩ := H1.out.getC (g := w.heap.size) (u := u) (by simp); obtain ⟨d0, d1, d2, d3, d4⟩ := H1.out.getC (g := w.heap.size + 1) (u := v) (by simp); clear b1; have q1 := q0; clear q0))
   | (have _t := q1; go_at_call 11; clear _t; go_loud (refine (rquad_any A c n 30 l _ (HCS.out.below H1.out.b) HL.out (by omega)).mono ?_; rintro e w2 ⟨A5, c5, qn, q, ok, rfl, l5, n5, a5, b5, hok, -, hqo⟩; rw [HM.out] at hok; subst hok; have hc5 := n5.cap; rw [l5] at hc5; have H2 := Lib.hid (((H1.out.step b5).addN n5).addB (.slice A5 qn c5)); have HA5 := Lib.hid a5; have HQN := Lib.hid l5; have HQO := Lib.hid hqo; obtain ⟨c0, c1, c2, c3, c4⟩ := H2.out.getC (g := w.heap.size) (u := u) (by simp); obtain ⟨d0, d1, d2, d3, d4⟩ := H2.out.getC (g := w.heap.size + 1) (u := v) (by simp); clear n5 a5 b5 l5 hqo; have q2 := q1; clear q1))
   | (have _t := q2; go_at_call 12; clear _t; go_loud (refine (cgreat_any _ 2 2 2 [u, v] _ (cs_two (g := w2.heap.size + 1) u v (by have h9 := heap_alloc_new (w2.alloc (.cells #[.slice A5 qn c5] 31)) (.cells #[.bool u.sx, .slice u.ax u.xs.length u.cx, .bool u.sy, .slice u.ay u.ys.length u.cy, .int .u8 u.st, .bool v.sx, .slice v.ax v.xs.length v.cx, .bool v.sy, .slice v.ay v.ys.length v.cy, .int .u8 v.st] 27); rw [World.size_alloc] at h9; exact h9) ((H2.out.getU (g := w.heap.size) (u := u) (by simp)).below ((Below.refl _ (w2.alloc (.cells #[.slice A5 qn c5] 31))).alloc (Nat.le_refl _) _)) ((H2.out.getU (g := w.heap.size + 1) (u := v) (by simp)).below ((Below.refl _ (w2.alloc (.cells #[.slice A5 qn c5] 31))).alloc (Nat.le_refl _) _))) rfl).mono ?_; rintro e w3 ⟨rfl, m3, hw3⟩; rw [HG.out]; have b3 := (show Below (w2.alloc (.cells #[.slice A5 qn c5] 31)).heap.size (w2.alloc (.cells #[.slice A5 qn c5] 31)) w3 by rw [hw3]; exact below_drewN' ((Below.refl _ (w2.alloc (.cells #[.slice A5 qn c5] 31))).alloc (Nat.le_refl _) _) m3); have H3 := Lib.hid (H2.out.step b3); obtain ⟨c0, c1, c2, c3, c4⟩ := H3.out.getC (g := w.heap.size) (u := u) (by simp); obtain ⟨d0, d1, d2, d3, d4⟩ := H3.out.getC (g := w.heap.size + 1) (u := v) (by simp); clear hw3 b3; have q3 := q2; clear q2))
   | (have _t := q3; go_at_call 13; clear _t; go_loud (refine (rbright_any u.sx u.ax u.cx u.xs _ (H3.out.getU (g := w.heap.size) (u := u) (by simp)).1 (by omega)).mono ?_; rintro e wr_ ⟨rfl, b_⟩; rw [HR1.out]; have H4 := Lib.hid (H3.out.step b_); obtain ⟨c0, c1, c2, c3, c4⟩ := H4.out.getC (g := w.heap.size) (u := u) (by simp); obtain ⟨d0, d1, d2, d3, d4⟩ := H4.out.getC (g := w.heap.size + 1) (u := v) (by simp); clear b_; have q4 := q3; clear q3))
   | (have _t := q4; go_at_call 13; clear _t; go_loud (refine (rbright_any u.sy u.ay u.cy u.ys _ (H4.out.getU (g := w.heap.size) (u := u) (by simp)).2.1 (by omega)).mono ?_; rintro e wr_ ⟨rfl, b_⟩; rw [HR2.out]; have H5 := Lib.hid (H4.out.step b_); obtain ⟨c0, c1, c2, c3, c4⟩ := H5.out.getC (g := w.heap.size) (u := u) (by simp); obtain ⟨d0, d1, d2, d3, d4⟩ := H5.out.getC (g := w.heap.size + 1) (u := v) (by simp); clear b_; have q5 := q4; clear q4))
   | (have _t := q5; go_at_call 13; clear _t; go_loud (refine (rbright_any v.sx v.ax v.cx v.xs _ (H5.out.getU (g := w.heap.size + 1) (u := v) (by simp)).1 (by omega)).mono ?_; rintro e wr_ ⟨rfl, b_⟩; rw [HR3.out]; have H6 := Lib.hid (H5.out.step b_); obtain ⟨c0, c1, c2, c3, c4⟩ := H6.out.getC (g := w.heap.size) (u := u) (by simp); obtain ⟨d0, d1, d2, d3, d4⟩ := H6.out.getC (g := w.heap.size + 1) (u := v) (by simp); clear b_; have q6 := q5; clear q5))
   | (have _t := q6; go_at_call 13; clear _t; go_loud (refine (rbright_any v.sy v.ay v.cy v.ys _ (H6.out.getU (g := w.heap.size + 1) (u := v) (by simp)).2.1 (by omega)).mono ?_; rintro e wr_ ⟨rfl, b_⟩; rw [HR4.out]; have H7 := Lib.hid (H6.out.step b_); obtain ⟨c0, c1, c2, c3, c4⟩ := H7.out.getC (g := w.heap.size) (u := u) (by simp); obtain ⟨d0, d1, d2, d3, d4⟩ := H7.out.getC (g := w.heap.size + 1) (u := v) (by simp); clear b_; have hql := quad_len HM.out (HQO.out (by first | rfl | trivial)); rw [HQN.out] at hql; have HQL := Lib.hid hql; have HQS := Lib.hid (qs_quadOf (HQO.out (by first | rfl | trivial))); clear hql; have f5 := H7.out.getB (g := w2.heap.size) (v := .slice A5 qn c5) (by simp); have q7 := q6; clear q6))
   | (have _t := q7; go_at_call 14; clear _t; go_loud (refine (set_bw A5 c5 qn q u.bx u.by_ _ _ u.st _ (H7.out.getN (A := A5) (c := c5) (l := q) (by simp)) HQN.out (by have := HQL.out; omega) HA5.out HQS.out (cv_r (H7.out.getU (g := w.heap.size) (u := u) (by simp)) K1.out K2.out).1 (cv_r (H7.out.getU (g := w.heap.size) (u := u) (by simp)) K1.out K2.out).2 (by show u.xs.length ≤ _; omega) (by show u.ys.length ≤ _; omega) hst).mono ?_; rintro e w8 ⟨A8, c8, p, er, rfl, n8, a8, b8, l8, s8⟩; obtain ⟨rfl, rfl⟩ := s8.no HFAR.out.1 HFAR.out.2; have H8 := Lib.hid ((H7.out.step b8).addB (.slice A8 0 c8)); have hc8 := n8.cap; have f8 := H8.out.getB (g := w8.heap.size) (v := .slice A8 0 c8) (by simp); clear n8 a8 b8 s8 l8; have q8 := q7; clear q7)))
 go_ret
 exact ⟨rfl, H8.out.b⟩
set_option maxRecDepth 100000 in
set_option maxHeartbeats 6400000 in
theorem lone_near
  (A : Option Addr) (c n : Nat) (l : List Cv) (u v : Cv) (w : World) (h : Cs w A c l) (hn : l.length = n) (hu : CvU w u) (hv : CvU w v) (hm : mayB l 30 = true) (hg : greatB [u, v] 2 = false) (h1 : u.xs.length ≤ 50) (h2 : u.ys.length ≤ 50) (h3 : v.xs.length ≤ 50) (h4 : v.ys.length ≤ 50) (r1 : rightI u.sx u.xs = true) (r2 : rightI u.sy u.ys = true) (r3 : rightI v.sx v.xs = true) (r4 : rightI v.sy v.ys = true) (hf : (u.st : Int) ≠ 0 → inR (ival u.sx u.xs) ∧ inR (ival u.sy u.ys)) :
  Calls Try.prog 5 #[.slice A n c, cvv u, cvv v] w fun e w' => e = .returned (.bool true) ∧ Below w.heap.size w w' := by
 have hcap := h.cap
 rw [hn] at hcap
 have hv1 := hu.1.cap
 have hv2 := hu.2.1.cap
 have hv3 := hv.1.cap
 have hv4 := hv.2.1.cap
 have hst := hu.2.2
 have HCS := Lib.hid h
 have HL := Lib.hid hn
 have HC := Lib.hid (Ac.two w u v hu hv)
 have HM := Lib.hid hm
 have q0 : True := trivial
 have HG := Lib.hid hg
 have HR1 := Lib.hid r1
 have K1 := Lib.hid (right_cn r1)
 have HR2 := Lib.hid r2
 have K2 := Lib.hid (right_cn r2)
 have HR3 := Lib.hid r3
 have K3 := Lib.hid (right_cn r3)
 have HR4 := Lib.hid r4
 have K4 := Lib.hid (right_cn r4)
 have HIN := Lib.hid hf
 have hsame := fun (W : World) (h : CvU W u) (k : CvU W v) => same_cv h k (right_cn r1) (right_cn r2) (right_cn r3) (right_cn r4)
 have HSM := Lib.hid (hsame w hu hv)
 clear h hn hu hv hm hg r1 r2 r3 r4 hf hsame
 go_enter Try.func5, Try.ntmps5
 go_upto_region 9 with (first
   | (have _t := q0; go_at_call 10; clear _t; go_loud (refine (alive8_any _).mono ?_; rintro e w1 ⟨rfl, b1⟩; have H1 := Lib.hid (HC.out.step b1); obtain ⟨c0, c1, c2, c3, c4⟩ := H1.out.getC (g := w.heap.size) (u := u) (by simp); obtain ⟨d0, d1, d2, d3, d4⟩ := H1.out.getC (g := w.heap.size + 1) (u := v) (by simp); clear b1; have q1 := q0; clear q0))
   | (have _t := q1; go_at_call 11; clear _t; go_loud (refine (rquad_any A c n 30 l _ (HCS.out.below H1.out.b) HL.out (by omega)).mono ?_; rintro e w2 ⟨A5, c5, qn, q, ok, rfl, l5, n5, a5, b5, hok, -, hqo⟩; rw [HM.out] at hok; subst hok; have hc5 := n5.cap; rw [l5] at hc5; have H2 := Lib.hid (((H1.out.step b5).addN n5).addB (.slice A5 qn c5)); have HA5 := Lib.hid a5; have HQN := Lib.hid l5; have HQO := Lib.hid hqo; obtain ⟨c0, c1, c2, c3, c4⟩ := H2.out.getC (g := w.heap.size) (u := u) (by simp); obtain ⟨d0, d1, d2, d3, d4⟩ := H2.out.getC (g := w.heap.size + 1) (u := v) (by simp); clear n5 a5 b5 l5 hqo; have q2 := q1; clear q1))
   | (have _t := q2; go_at_call 12; clear _t; go_loud (refine (cgreat_any _ 2 2 2 [u, v] _ (cs_two (g := w2.heap.size + 1) u v (by have h9 := heap_alloc_new (w2.alloc (.cells #[.slice A5 qn c5] 31)) (.cells #[.bool u.sx, .slice u.ax u.xs.length u.cx, .bool u.sy, .slice u.ay u.ys.length u.cy, .int .u8 u.st, .bool v.sx, .slice v.ax v.xs.length v.cx, .bool v.sy, .slice v.ay v.ys.length v.cy, .int .u8 v.st] 27); rw [World.size_alloc] at h9; exact h9) ((H2.out.getU (g := w.heap.size) (u := u) (by simp)).below ((Below.refl _ (w2.alloc (.cells #[.slice A5 qn c5] 31))).alloc (Nat.le_refl _) _)) ((H2.out.getU (g := w.heap.size + 1) (u := v) (by simp)).below ((Below.refl _ (w2.alloc (.cells #[.slice A5 qn c5] 31))).alloc (Nat.le_refl _) _))) rfl).mono ?_; rintro e w3 ⟨rfl, m3, hw3⟩; rw [HG.out]; have b3 := (show Below (w2.alloc (.cells #[.slice A5 qn c5] 31)).heap.size (w2.alloc (.cells #[.slice A5 qn c5] 31)) w3 by rw [hw3]; exact below_drewN' ((Below.refl _ (w2.alloc (.cells #[.slice A5 qn c5] 31))).alloc (Nat.le_refl _) _) m3); have H3 := Lib.hid (H2.out.step b3); obtain ⟨c0, c1, c2, c3, c4⟩ := H3.out.getC (g := w.heap.size) (u := u) (by simp); obtain ⟨d0, d1, d2, d3, d4⟩ := H3.out.getC (g := w.heap.size + 1) (u := v) (by simp); clear hw3 b3; have q3 := q2; clear q2))
   | (have _t := q3; go_at_call 13; clear _t; go_loud (refine (rbright_any u.sx u.ax u.cx u.xs _ (H3.out.getU (g := w.heap.size) (u := u) (by simp)).1 (by omega)).mono ?_; rintro e wr_ ⟨rfl, b_⟩; rw [HR1.out]; have H4 := Lib.hid (H3.out.step b_); obtain ⟨c0, c1, c2, c3, c4⟩ := H4.out.getC (g := w.heap.size) (u := u) (by simp); obtain ⟨d0, d1, d2, d3, d4⟩ := H4.out.getC (g := w.heap.size + 1) (u := v) (by simp); clear b_; have q4 := q3; clear q3))
   | (have _t := q4; go_at_call 13; clear _t; go_loud (refine (rbright_any u.sy u.ay u.cy u.ys _ (H4.out.getU (g := w.heap.size) (u := u) (by simp)).2.1 (by omega)).mono ?_; rintro e wr_ ⟨rfl, b_⟩; rw [HR2.out]; have H5 := Lib.hid (H4.out.step b_); obtain ⟨c0, c1, c2, c3, c4⟩ := H5.out.getC (g := w.heap.size) (u := u) (by simp); obtain ⟨d0, d1, d2, d3, d4⟩ := H5.out.getC (g := w.heap.size + 1) (u := v) (by simp); clear b_; have q5 := q4; clear q4))
   | (have _t := q5; go_at_call 13; clear _t; go_loud (refine (rbright_any v.sx v.ax v.cx v.xs _ (H5.out.getU (g := w.heap.size + 1) (u := v) (by simp)).1 (by omega)).mono ?_; rintro e wr_ ⟨rfl, b_⟩; rw [HR3.out]; have H6 := Lib.hid (H5.out.step b_); obtain ⟨c0, c1, c2, c3, c4⟩ := H6.out.getC (g := w.heap.size) (u := u) (by simp); obtain ⟨d0, d1, d2, d3, d4⟩ := H6.out.getC (g := w.heap.size + 1) (u := v) (by simp); clear b_; have q6 := q5; clear q5))
   | (have _t := q6; go_at_call 13; clear _t; go_loud (refine (rbright_any v.sy v.ay v.cy v.ys _ (H6.out.getU (g := w.heap.size + 1) (u := v) (by simp)).2.1 (by omega)).mono ?_; rintro e wr_ ⟨rfl, b_⟩; rw [HR4.out]; have H7 := Lib.hid (H6.out.step b_); obtain ⟨c0, c1, c2, c3, c4⟩ := H7.out.getC (g := w.heap.size) (u := u) (by simp); obtain ⟨d0, d1, d2, d3, d4⟩ := H7.out.getC (g := w.heap.size + 1) (u := v) (by simp); clear b_; have hql := quad_len HM.out (HQO.out (by first | rfl | trivial)); rw [HQN.out] at hql; have HQL := Lib.hid hql; have HQS := Lib.hid (qs_quadOf (HQO.out (by first | rfl | trivial))); clear hql; have f5 := H7.out.getB (g := w2.heap.size) (v := .slice A5 qn c5) (by simp); have q7 := q6; clear q6))
   | (have _t := q7; go_at_call 14; clear _t; go_loud (refine (set_bw A5 c5 qn q u.bx u.by_ _ _ u.st _ (H7.out.getN (A := A5) (c := c5) (l := q) (by simp)) HQN.out (by have := HQL.out; omega) HA5.out HQS.out (cv_r (H7.out.getU (g := w.heap.size) (u := u) (by simp)) K1.out K2.out).1 (cv_r (H7.out.getU (g := w.heap.size) (u := u) (by simp)) K1.out K2.out).2 (by show u.xs.length ≤ _; omega) (by show u.ys.length ≤ _; omega) hst).mono ?_; rintro e w8 ⟨A8, c8, p, er, rfl, n8, a8, b8, l8, s8⟩; obtain ⟨rfl, s9⟩ := s8.yes HIN.out; obtain ⟨pn, hpn⟩ : ∃ pn, pn = p.length := ⟨_, rfl⟩; rw [← hpn]; have hc8 := n8.cap; rw [← hpn] at hc8 l8; have H8 := Lib.hid (((H7.out.step b8).addN n8).addB (.slice A8 pn c8)); have HA8 := Lib.hid a8; have HSO := Lib.hid s9; have HPN := Lib.hid hpn; have HPL := Lib.hid l8; obtain ⟨c0, c1, c2, c3, c4⟩ := H8.out.getC (g := w.heap.size) (u := u) (by simp); obtain ⟨d0, d1, d2, d3, d4⟩ := H8.out.getC (g := w.heap.size + 1) (u := v) (by simp); have f5 := H8.out.getB (g := w2.heap.size) (v := .slice A5 qn c5) (by simp); have f8 := H8.out.getB (g := w8.heap.size) (v := .slice A8 pn c8) (by simp); clear n8 a8 b8 s8 s9 l8 hpn; have q8 := q7; clear q7)))
 obtain ⟨gc, hgc⟩ : ∃ g, g = w.heap.size := ⟨_, rfl⟩
 obtain ⟨gd, hgd⟩ : ∃ g, g = w.heap.size + 1 := ⟨_, rfl⟩
 obtain ⟨g5, hg5⟩ : ∃ g, g = w2.heap.size := ⟨_, rfl⟩
 obtain ⟨g8, hg8⟩ : ∃ g, g = w8.heap.size := ⟨_, rfl⟩
 have SD := Lib.hid (H8.out.step (Below.drew' (Below.refl _ (w8.alloc (.cells #[.slice A8 pn c8] 31)))))
 rw [← hgd, ← hgc, ← hg5, ← hg8] at SD
 rw [← hgd, ← hgc, ← hg5, ← hg8]
 obtain ⟨k0, hk0, hk09⟩ : ∃ k0 : Nat, getQ q (ival u.sx u.xs) (ival u.sy u.ys) = (k0 : Int) ∧ k0 ≤ 255 := ⟨(getQ q (ival u.sx u.xs) (ival u.sy u.ys)).toNat, by have := getQ_byte HQS.out.1 (ival u.sx u.xs) (ival u.sy u.ys); omega, by have := getQ_byte HQS.out.1 (ival u.sx u.xs) (ival u.sy u.ys); omega⟩
 have HK0 := Lib.hid hk0
 clear hk0 hgc hgd hg5 hg8 c0 c1 c2 c3 c4 d0 d1 d2 d3 d4 f5 f8 H1 H2 H3 H4 H5 H6 H7 q8 HC
 go_cut [11, 12] from 70 to 84 (fun z1 z2 wx => ∃ (gb : Nat) (Ab : Option Addr) (cb : Nat), z1 = .pointer (some ⟨gb, 0, none⟩) ∧ z2 = .int .i64 0 ∧ Ac w wx [(Ab, cb, q), (A8, c8, p), (A5, c5, q)] [(gb, .slice Ab qn cb), (g8, .slice A8 pn c8), (g5, .slice A5 qn c5)] [(gd, v), (gc, u)])
 case first =>
  refine wp_region_noPanic ?_
  refine wp_region_held (S := fun w' => w'.cell? ⟨g8, 0, none⟩ = some (.slice A8 pn c8) ∧ w'.cell? ⟨g5, 0, none⟩ = some (.slice A5 qn c5) ∧ w'.cell? ⟨gc, 0, none⟩ = some (.bool u.sx) ∧ w'.cell? ⟨gc, 1, none⟩ = some (.slice u.ax u.xs.length u.cx) ∧ w'.cell? ⟨gc, 2, none⟩ = some (.bool u.sy) ∧ w'.cell? ⟨gc, 3, none⟩ = some (.slice u.ay u.ys.length u.cy)) (by kernel_rfl) ?_
  obtain ⟨W0, hW0⟩ : ∃ W0 : World, W0 = (w8.alloc (.cells #[.slice A8 pn c8] 31)).drew := ⟨_, rfl⟩
  rw [← hW0] at SD
  change wpAnyH _ _ _ _ _ _ _ _ (w8.alloc (.cells #[.slice A8 pn c8] 31)).drew
  rw [← hW0]
  clear hW0
  have B0 := Lib.hid (Below.refl W0.heap.size W0)
  have hS0 := (And.intro (SD.out.getB (g := g8) (v := .slice A8 pn c8) (by simp)) (And.intro (SD.out.getB (g := g5) (v := .slice A5 qn c5) (by simp)) (cells4 (SD.out.getC (g := gc) (u := u) (by simp)))))
  refine wpAnyH_take (i := 0) (v := ?_) rfl (by kernel_rfl) (by kernel_rfl) (by kernel_rfl) (fun _ _ _ h => h) (Or.inl ⟨by rfl, ?_⟩) hS0 ?_
  rotate_left
  ·
   rintro w' ⟨s1, s2, s3, s4, s5, s6⟩
   go_simp
   first | done | with_reducible rfl | rfl
  simp only [Act.put, LA]
  refine wpAnyH_take (i := 1) (v := ?_) rfl (by kernel_rfl) (by kernel_rfl) (by kernel_rfl) (fun _ _ _ h => h) (Or.inl ⟨by rfl, ?_⟩) hS0 ?_
  rotate_left
  ·
   rintro w' ⟨s1, s2, s3, s4, s5, s6⟩
   go_simp
   first | done | with_reducible rfl | rfl
  simp only [Act.put, LA]
  refine wpAnyH_take (i := 2) (v := ?_) rfl (by kernel_rfl) (by kernel_rfl) (by kernel_rfl) (fun _ _ _ h => h) (Or.inl ⟨by rfl, ?_⟩) hS0 ?_
  rotate_left
  ·
   rintro w' ⟨s1, s2, s3, s4, s5, s6⟩
   go_simp
   first | done | with_reducible rfl | rfl
  simp only [Act.put, LA]
  refine wpAnyH_take (i := 3) (v := ?_) rfl (by kernel_rfl) (by kernel_rfl) (by kernel_rfl) (fun _ _ _ h => h) (Or.inl ⟨by rfl, ?_⟩) hS0 ?_
  rotate_left
  ·
   rintro w' ⟨s1, s2, s3, s4, s5, s6⟩
   go_simp
   first | done | with_reducible rfl | rfl
  simp only [Act.put, LA]
  refine wpAnyH_take (i := 4) (v := ?_) rfl (by kernel_rfl) (by kernel_rfl) (by kernel_rfl) (fun _ _ _ h => h) (Or.inl ⟨by rfl, ?_⟩) hS0 ?_
  rotate_left
  ·
   rintro w' ⟨s1, s2, s3, s4, s5, s6⟩
   go_simp
   first | done | with_reducible rfl | rfl
  simp only [Act.put, LA]
  refine wpAnyH_take (i := 5) (v := ?_) rfl (by kernel_rfl) (by kernel_rfl) (by kernel_rfl) (fun _ _ _ h => h) (Or.inl ⟨by rfl, ?_⟩) hS0 ?_
  rotate_left
  ·
   rintro w' ⟨s1, s2, s3, s4, s5, s6⟩
   go_simp
   first | done | with_reducible rfl | rfl
  simp only [Act.put, LA]
  refine wpAnyH_take (i := 6) (v := ?_) rfl (by kernel_rfl) (by kernel_rfl) (by kernel_rfl) (fun _ _ _ h => h) (Or.inl ⟨by rfl, ?_⟩) hS0 ?_
  rotate_left
  ·
   rintro w' ⟨s1, s2, s3, s4, s5, s6⟩
   go_simp
   first | done | with_reducible rfl | rfl
  simp only [Act.put, LA]
  refine wpAnyH_take (i := 7) (v := ?_) rfl (by kernel_rfl) (by kernel_rfl) (by kernel_rfl) (fun _ _ _ h => h) (Or.inl ⟨by rfl, ?_⟩) hS0 ?_
  rotate_left
  ·
   rintro w' ⟨s1, s2, s3, s4, s5, s6⟩
   go_simp
   first | done | with_reducible rfl | rfl
  simp only [Act.put, LA]
  refine wpAnyH_take (i := 8) (v := ?_) rfl (by kernel_rfl) (by kernel_rfl) (by kernel_rfl) (fun _ _ _ h => h) (Or.inl ⟨by rfl, ?_⟩) hS0 ?_
  rotate_left
  ·
   rintro w' ⟨s1, s2, s3, s4, s5, s6⟩
   go_simp
   first | done | with_reducible rfl | rfl
  simp only [Act.put, LA]
  refine wpAnyH_take (i := 9) (v := ?_) rfl (by kernel_rfl) (by kernel_rfl) (by kernel_rfl) (fun _ _ _ h => h) (Or.inl ⟨by rfl, ?_⟩) hS0 ?_
  rotate_left
  ·
   rintro w' ⟨s1, s2, s3, s4, s5, s6⟩
   go_simp
   first | done | with_reducible rfl | rfl
  simp only [Act.put, LA]
  refine wpAnyH_ready (rs := [10, 15]) (by kernel_rfl) (by simp) (AllReadyH.cons rfl (fun K hK => ?_) (AllReadyH.cons rfl (fun K hK => ?_) AllReadyH.nil))
  ·
   go_simp
   refine (get_bw A5 c5 qn q u.bx u.by_ _ _ _ ((SD.out.step B0.out).getN (A := A5) (c := c5) (l := q) (by simp)) HQN.out HQS.out.1 (cv_r ((SD.out.step B0.out).getU (g := gc) (u := u) (by simp)) K1.out K2.out).1 (cv_r ((SD.out.step B0.out).getU (g := gc) (u := u) (by simp)) K1.out K2.out).2 (by show u.xs.length ≤ _; omega) (by show u.ys.length ≤ _; omega)).mono ?_
   rintro e W1 ⟨rfl, b⟩
   rw [HK0.out]
   dsimp only
   have B1 := Lib.hid (B0.out.trans (b.mono B0.out.size))
   refine hK.out _ _ (And.intro ((SD.out.step B1.out).getB (g := g8) (v := .slice A8 pn c8) (by simp)) (And.intro ((SD.out.step B1.out).getB (g := g5) (v := .slice A5 qn c5) (by simp)) (cells4 ((SD.out.step B1.out).getC (g := gc) (u := u) (by simp))))) (fun _ => ?_)
   clear hK K b
   refine wpAnyH_ready (rs := [11, 15]) (by kernel_rfl) (by simp) (AllReadyH.cons rfl (fun K hK => ?_) (AllReadyH.cons rfl (fun K hK => ?_) AllReadyH.nil))
   ·
    go_simp
    refine (set_bw A8 c8 pn p u.bx u.by_ _ _ k0 _ ((SD.out.step B1.out).getN (A := A8) (c := c8) (l := p) (by simp)) HPN.out.symm (by have := HPL.out; have := HQL.out; have := HQN.out; omega) HA8.out HSO.out.1 (cv_r ((SD.out.step B1.out).getU (g := gc) (u := u) (by simp)) K1.out K2.out).1 (cv_r ((SD.out.step B1.out).getU (g := gc) (u := u) (by simp)) K1.out K2.out).2 (by show u.xs.length ≤ _; omega) (by show u.ys.length ≤ _; omega) hk09).mono ?_
    rintro e W2 ⟨Ab, cb, bq, er, rfl, nb, ab, b, lb, sb⟩
    rw [← HK0.out] at sb
    obtain ⟨e1, e2⟩ := set_back HQS.out HSO.out sb
    subst e1
    subst e2
    rw [HQN.out]
    dsimp only
    have hcb := nb.cap
    rw [HQN.out] at hcb
    have B2 := Lib.hid (B1.out.trans (b.mono B1.out.size))
    have N2 := Lib.hid nb
    refine hK.out _ _ (And.intro ((SD.out.step B2.out).getB (g := g8) (v := .slice A8 pn c8) (by simp)) (And.intro ((SD.out.step B2.out).getB (g := g5) (v := .slice A5 qn c5) (by simp)) (cells4 ((SD.out.step B2.out).getC (g := gc) (u := u) (by simp))))) (fun hS2 => ?_)
    clear hK K nb ab b lb sb
    refine wpAnyH_take (i := 12) (v := ?_) rfl (by kernel_rfl) (by kernel_rfl) (by kernel_rfl) (fun _ _ _ h => h) (Or.inl ⟨by rfl, ?_⟩) hS2 ?_
    rotate_left
    ·
     rintro w' ⟨s1, s2, s3, s4, s5, s6⟩
     go_simp
     first | done | with_reducible rfl | rfl
    simp only [Act.put, LA]
    refine wpAnyH_take (i := 13) (v := ?_) rfl (by kernel_rfl) (by kernel_rfl) (by kernel_rfl) (fun _ _ _ h => h) (Or.inl ⟨by rfl, ?_⟩) hS2 ?_
    rotate_left
    ·
     rintro w' ⟨s1, s2, s3, s4, s5, s6⟩
     go_simp
     first | done | with_reducible rfl | rfl
    simp only [Act.put, LA]
    refine wpAnyH_take (i := 14) (v := ?_) rfl (by kernel_rfl) (by kernel_rfl) (by kernel_rfl) (fun _ _ _ h => h) (Or.inl ⟨by rfl, ?_⟩) hS2 ?_
    rotate_left
    ·
     rintro w' ⟨s1, s2, s3, s4, s5, s6⟩
     go_simp
     first | done | with_reducible rfl | rfl
    simp only [Act.put, LA]
    refine wpAnyH_ready (rs := [15]) (by kernel_rfl) (by simp) (AllReadyH.cons rfl (fun K hK => ?_) AllReadyH.nil)
    go_simp
    obtain ⟨gb, hg⟩ : ∃ g, g = W2.heap.size := ⟨_, rfl⟩
    obtain ⟨W3, hW⟩ : ∃ Z : World, Z = W2.alloc (.cells #[.slice none 0 0] 31) := ⟨_, rfl⟩
    have hbl := (Below.refl W2.heap.size W2).alloc (Nat.le_refl _) (.cells #[.slice none 0 0] 31)
    rw [← hW] at hbl
    have R3 := Lib.hid (show W3.heap[gb]? = some (.cells #[.slice none 0 0] 31) by rw [hW, hg]; exact heap_alloc_new W2 _)
    have GA := Lib.hid (show W0.heap.size ≤ gb by rw [hg]; exact B2.out.size)
    have B3 := Lib.hid (B2.out.trans (hbl.mono B2.out.size))
    have N3 := Lib.hid (N2.out.below hbl)
    rw [← hg, ← hW]
    refine hK.out _ _ (And.intro ((SD.out.step B3.out).getB (g := g8) (v := .slice A8 pn c8) (by simp)) (And.intro ((SD.out.step B3.out).getB (g := g5) (v := .slice A5 qn c5) (by simp)) (cells4 ((SD.out.step B3.out).getC (g := gc) (u := u) (by simp))))) (fun _ => ?_)
    clear hK K hg hW hbl
    refine wpAnyH_ready (rs := [16]) (by kernel_rfl) (by simp) (AllReadyH.cons rfl (fun K hK => ?_) AllReadyH.nil)
    have z0 := one_cell R3.out
    have z1 := one_free R3.out
    go_simp
    have BF := Lib.hid (B3.out.setCell (p := ⟨gb, 0, none⟩) GA.out (.slice Ab qn cb))
    have hS9 := (And.intro ((SD.out.step BF.out).getB (g := g8) (v := .slice A8 pn c8) (by simp)) (And.intro ((SD.out.step BF.out).getB (g := g5) (v := .slice A5 qn c5) (by simp)) (cells4 ((SD.out.step BF.out).getC (g := gc) (u := u) (by simp)))))
    refine hK.out _ _ hS9 (fun _ => ?_)
    clear hK K z0 z1
    refine wpAnyH_take (i := 17) (v := ?_) rfl (by kernel_rfl) (by kernel_rfl) (by kernel_rfl) (fun _ _ _ h => h) (Or.inl ⟨by rfl, ?_⟩) hS9 ?_
    rotate_left
    ·
     rintro w' ⟨s1, s2, s3, s4, s5, s6⟩
     go_simp
     first | done | with_reducible rfl | rfl
    simp only [Act.put, LA]
    refine wpAnyH_done (by kernel_rfl) ?_ _
    refine NoPanic.normal ?_
    go_wp2_with fail
    go_meet
    exact ⟨gb, Ab, cb, rfl, rfl, ((SD.out.step BF.out).addN (ns_boxed N3.out R3.out)).put (heap_setCell_same W3 gb 0 _ _ _ R3.out)⟩
   ·
    go_simp
    obtain ⟨gb, hg⟩ : ∃ g, g = W1.heap.size := ⟨_, rfl⟩
    obtain ⟨W2, hW⟩ : ∃ Z : World, Z = W1.alloc (.cells #[.slice none 0 0] 31) := ⟨_, rfl⟩
    have hbl := (Below.refl W1.heap.size W1).alloc (Nat.le_refl _) (.cells #[.slice none 0 0] 31)
    rw [← hW] at hbl
    have R2 := Lib.hid (show W2.heap[gb]? = some (.cells #[.slice none 0 0] 31) by rw [hW, hg]; exact heap_alloc_new W1 _)
    have GA := Lib.hid (show W0.heap.size ≤ gb by rw [hg]; exact B1.out.size)
    have B2 := Lib.hid (B1.out.trans (hbl.mono B1.out.size))
    rw [← hg, ← hW]
    refine hK.out _ _ (And.intro ((SD.out.step B2.out).getB (g := g8) (v := .slice A8 pn c8) (by simp)) (And.intro ((SD.out.step B2.out).getB (g := g5) (v := .slice A5 qn c5) (by simp)) (cells4 ((SD.out.step B2.out).getC (g := gc) (u := u) (by simp))))) (fun _ => ?_)
    clear hK K hg hW hbl
    refine wpAnyH_ready (rs := [11]) (by kernel_rfl) (by simp) (AllReadyH.cons rfl (fun K hK => ?_) AllReadyH.nil)
    go_simp
    refine (set_bw A8 c8 pn p u.bx u.by_ _ _ k0 _ ((SD.out.step B2.out).getN (A := A8) (c := c8) (l := p) (by simp)) HPN.out.symm (by have := HPL.out; have := HQL.out; have := HQN.out; omega) HA8.out HSO.out.1 (cv_r ((SD.out.step B2.out).getU (g := gc) (u := u) (by simp)) K1.out K2.out).1 (cv_r ((SD.out.step B2.out).getU (g := gc) (u := u) (by simp)) K1.out K2.out).2 (by show u.xs.length ≤ _; omega) (by show u.ys.length ≤ _; omega) hk09).mono ?_
    rintro e W3 ⟨Ab, cb, bq, er, rfl, nb, ab, b, lb, sb⟩
    rw [← HK0.out] at sb
    obtain ⟨e1, e2⟩ := set_back HQS.out HSO.out sb
    subst e1
    subst e2
    rw [HQN.out]
    dsimp only
    have hcb := nb.cap
    rw [HQN.out] at hcb
    have B3 := Lib.hid (B2.out.trans (b.mono B2.out.size))
    have N3 := Lib.hid nb
    have R3 := Lib.hid ((b.block gb (heapLt R2.out)).trans R2.out)
    refine hK.out _ _ (And.intro ((SD.out.step B3.out).getB (g := g8) (v := .slice A8 pn c8) (by simp)) (And.intro ((SD.out.step B3.out).getB (g := g5) (v := .slice A5 qn c5) (by simp)) (cells4 ((SD.out.step B3.out).getC (g := gc) (u := u) (by simp))))) (fun hS3 => ?_)
    clear hK K nb ab b lb sb
    refine wpAnyH_take (i := 12) (v := ?_) rfl (by kernel_rfl) (by kernel_rfl) (by kernel_rfl) (fun _ _ _ h => h) (Or.inl ⟨by rfl, ?_⟩) hS3 ?_
    rotate_left
    ·
     rintro w' ⟨s1, s2, s3, s4, s5, s6⟩
     go_simp
     first | done | with_reducible rfl | rfl
    simp only [Act.put, LA]
    refine wpAnyH_take (i := 13) (v := ?_) rfl (by kernel_rfl) (by kernel_rfl) (by kernel_rfl) (fun _ _ _ h => h) (Or.inl ⟨by rfl, ?_⟩) hS3 ?_
    rotate_left
    ·
     rintro w' ⟨s1, s2, s3, s4, s5, s6⟩
     go_simp
     first | done | with_reducible rfl | rfl
    simp only [Act.put, LA]
    refine wpAnyH_take (i := 14) (v := ?_) rfl (by kernel_rfl) (by kernel_rfl) (by kernel_rfl) (fun _ _ _ h => h) (Or.inl ⟨by rfl, ?_⟩) hS3 ?_
    rotate_left
    ·
     rintro w' ⟨s1, s2, s3, s4, s5, s6⟩
     go_simp
     first | done | with_reducible rfl | rfl
    simp only [Act.put, LA]
    refine wpAnyH_ready (rs := [16]) (by kernel_rfl) (by simp) (AllReadyH.cons rfl (fun K hK => ?_) AllReadyH.nil)
    have z0 := one_cell R3.out
    have z1 := one_free R3.out
    go_simp
    have BF := Lib.hid (B3.out.setCell (p := ⟨gb, 0, none⟩) GA.out (.slice Ab qn cb))
    have hS9 := (And.intro ((SD.out.step BF.out).getB (g := g8) (v := .slice A8 pn c8) (by simp)) (And.intro ((SD.out.step BF.out).getB (g := g5) (v := .slice A5 qn c5) (by simp)) (cells4 ((SD.out.step BF.out).getC (g := gc) (u := u) (by simp)))))
    refine hK.out _ _ hS9 (fun _ => ?_)
    clear hK K z0 z1
    refine wpAnyH_take (i := 17) (v := ?_) rfl (by kernel_rfl) (by kernel_rfl) (by kernel_rfl) (fun _ _ _ h => h) (Or.inl ⟨by rfl, ?_⟩) hS9 ?_
    rotate_left
    ·
     rintro w' ⟨s1, s2, s3, s4, s5, s6⟩
     go_simp
     first | done | with_reducible rfl | rfl
    simp only [Act.put, LA]
    refine wpAnyH_done (by kernel_rfl) ?_ _
    refine NoPanic.normal ?_
    go_wp2_with fail
    go_meet
    exact ⟨gb, Ab, cb, rfl, rfl, ((SD.out.step BF.out).addN (ns_boxed N3.out R3.out)).put (heap_setCell_same W3 gb 0 _ _ _ R3.out)⟩
  ·
   go_simp
   obtain ⟨gb, hg⟩ : ∃ g, g = W0.heap.size := ⟨_, rfl⟩
   obtain ⟨W1, hW⟩ : ∃ Z : World, Z = W0.alloc (.cells #[.slice none 0 0] 31) := ⟨_, rfl⟩
   have hbl := (Below.refl W0.heap.size W0).alloc (Nat.le_refl _) (.cells #[.slice none 0 0] 31)
   rw [← hW] at hbl
   have R1 := Lib.hid (show W1.heap[gb]? = some (.cells #[.slice none 0 0] 31) by rw [hW, hg]; exact heap_alloc_new W0 _)
   have GA := Lib.hid (show W0.heap.size ≤ gb by rw [hg]; exact B0.out.size)
   have B1 := Lib.hid (B0.out.trans (hbl.mono B0.out.size))
   rw [← hg, ← hW]
   refine hK.out _ _ (And.intro ((SD.out.step B1.out).getB (g := g8) (v := .slice A8 pn c8) (by simp)) (And.intro ((SD.out.step B1.out).getB (g := g5) (v := .slice A5 qn c5) (by simp)) (cells4 ((SD.out.step B1.out).getC (g := gc) (u := u) (by simp))))) (fun _ => ?_)
   clear hK K hg hW hbl
   refine wpAnyH_ready (rs := [10]) (by kernel_rfl) (by simp) (AllReadyH.cons rfl (fun K hK => ?_) AllReadyH.nil)
   go_simp
   refine (get_bw A5 c5 qn q u.bx u.by_ _ _ _ ((SD.out.step B1.out).getN (A := A5) (c := c5) (l := q) (by simp)) HQN.out HQS.out.1 (cv_r ((SD.out.step B1.out).getU (g := gc) (u := u) (by simp)) K1.out K2.out).1 (cv_r ((SD.out.step B1.out).getU (g := gc) (u := u) (by simp)) K1.out K2.out).2 (by show u.xs.length ≤ _; omega) (by show u.ys.length ≤ _; omega)).mono ?_
   rintro e W2 ⟨rfl, b⟩
   rw [HK0.out]
   dsimp only
   have B2 := Lib.hid (B1.out.trans (b.mono B1.out.size))
   have R2 := Lib.hid ((b.block gb (heapLt R1.out)).trans R1.out)
   refine hK.out _ _ (And.intro ((SD.out.step B2.out).getB (g := g8) (v := .slice A8 pn c8) (by simp)) (And.intro ((SD.out.step B2.out).getB (g := g5) (v := .slice A5 qn c5) (by simp)) (cells4 ((SD.out.step B2.out).getC (g := gc) (u := u) (by simp))))) (fun _ => ?_)
   clear hK K b
   refine wpAnyH_ready (rs := [11]) (by kernel_rfl) (by simp) (AllReadyH.cons rfl (fun K hK => ?_) AllReadyH.nil)
   go_simp
   refine (set_bw A8 c8 pn p u.bx u.by_ _ _ k0 _ ((SD.out.step B2.out).getN (A := A8) (c := c8) (l := p) (by simp)) HPN.out.symm (by have := HPL.out; have := HQL.out; have := HQN.out; omega) HA8.out HSO.out.1 (cv_r ((SD.out.step B2.out).getU (g := gc) (u := u) (by simp)) K1.out K2.out).1 (cv_r ((SD.out.step B2.out).getU (g := gc) (u := u) (by simp)) K1.out K2.out).2 (by show u.xs.length ≤ _; omega) (by show u.ys.length ≤ _; omega) hk09).mono ?_
   rintro e W3 ⟨Ab, cb, bq, er, rfl, nb, ab, b, lb, sb⟩
   rw [← HK0.out] at sb
   obtain ⟨e1, e2⟩ := set_back HQS.out HSO.out sb
   subst e1
   subst e2
   rw [HQN.out]
   dsimp only
   have hcb := nb.cap
   rw [HQN.out] at hcb
   have B3 := Lib.hid (B2.out.trans (b.mono B2.out.size))
   have N3 := Lib.hid nb
   have R3 := Lib.hid ((b.block gb (heapLt R2.out)).trans R2.out)
   refine hK.out _ _ (And.intro ((SD.out.step B3.out).getB (g := g8) (v := .slice A8 pn c8) (by simp)) (And.intro ((SD.out.step B3.out).getB (g := g5) (v := .slice A5 qn c5) (by simp)) (cells4 ((SD.out.step B3.out).getC (g := gc) (u := u) (by simp))))) (fun hS3 => ?_)
   clear hK K nb ab b lb sb
   refine wpAnyH_take (i := 12) (v := ?_) rfl (by kernel_rfl) (by kernel_rfl) (by kernel_rfl) (fun _ _ _ h => h) (Or.inl ⟨by rfl, ?_⟩) hS3 ?_
   rotate_left
   ·
    rintro w' ⟨s1, s2, s3, s4, s5, s6⟩
    go_simp
    first | done | with_reducible rfl | rfl
   simp only [Act.put, LA]
   refine wpAnyH_take (i := 13) (v := ?_) rfl (by kernel_rfl) (by kernel_rfl) (by kernel_rfl) (fun _ _ _ h => h) (Or.inl ⟨by rfl, ?_⟩) hS3 ?_
   rotate_left
   ·
    rintro w' ⟨s1, s2, s3, s4, s5, s6⟩
    go_simp
    first | done | with_reducible rfl | rfl
   simp only [Act.put, LA]
   refine wpAnyH_take (i := 14) (v := ?_) rfl (by kernel_rfl) (by kernel_rfl) (by kernel_rfl) (fun _ _ _ h => h) (Or.inl ⟨by rfl, ?_⟩) hS3 ?_
   rotate_left
   ·
    rintro w' ⟨s1, s2, s3, s4, s5, s6⟩
    go_simp
    first | done | with_reducible rfl | rfl
   simp only [Act.put, LA]
   refine wpAnyH_ready (rs := [16]) (by kernel_rfl) (by simp) (AllReadyH.cons rfl (fun K hK => ?_) AllReadyH.nil)
   have z0 := one_cell R3.out
   have z1 := one_free R3.out
   go_simp
   have BF := Lib.hid (B3.out.setCell (p := ⟨gb, 0, none⟩) GA.out (.slice Ab qn cb))
   have hS9 := (And.intro ((SD.out.step BF.out).getB (g := g8) (v := .slice A8 pn c8) (by simp)) (And.intro ((SD.out.step BF.out).getB (g := g5) (v := .slice A5 qn c5) (by simp)) (cells4 ((SD.out.step BF.out).getC (g := gc) (u := u) (by simp)))))
   refine hK.out _ _ hS9 (fun _ => ?_)
   clear hK K z0 z1
   refine wpAnyH_take (i := 17) (v := ?_) rfl (by kernel_rfl) (by kernel_rfl) (by kernel_rfl) (fun _ _ _ h => h) (Or.inl ⟨by rfl, ?_⟩) hS9 ?_
   rotate_left
   ·
    rintro w' ⟨s1, s2, s3, s4, s5, s6⟩
    go_simp
    first | done | with_reducible rfl | rfl
   simp only [Act.put, LA]
   refine wpAnyH_done (by kernel_rfl) ?_ _
   refine NoPanic.normal ?_
   go_wp2_with fail
   go_meet
   exact ⟨gb, Ab, cb, rfl, rfl, ((SD.out.step BF.out).addN (ns_boxed N3.out R3.out)).put (heap_setCell_same W3 gb 0 _ _ _ R3.out)⟩
 case rest =>
  obtain ⟨gb, Ab, cb, rfl, rfl, hac⟩ := hcut
  have H9 := Lib.hid hac
  obtain ⟨c0, c1, c2, c3, c4⟩ := hac.getC (g := gc) (u := u) (by simp)
  obtain ⟨d0, d1, d2, d3, d4⟩ := hac.getC (g := gd) (u := v) (by simp)
  clear hac SD
  have tk0 : True := trivial
  cases hbx : decide (u.sx = v.sx ∧ u.xs = v.xs) with
  | true =>
   have HBX := Lib.hid hbx
   cases hby : decide (u.sy = v.sy ∧ u.ys = v.ys) with
   | true =>
    have HBY := Lib.hid hby
    have HXY := Lib.hid (HSM.out.2 ⟨hbx, hby⟩)
    clear hbx hby
    go_wp2_with (first
     | (have _t := tk0; go_at_call 22; clear _t; go_loud (refine (rbsame_any u.sx v.sx _ _ _ _ u.xs v.xs _ (H9.out.getU (g := gc) (u := u) (by simp)).1 (H9.out.getU (g := gd) (u := v) (by simp)).1 (by omega)).mono ?_; rintro e w9 ⟨rfl, b9⟩; rw [HBX.out]; have H10 := Lib.hid (H9.out.step b9); obtain ⟨c0, c1, c2, c3, c4⟩ := H10.out.getC (g := gc) (u := u) (by simp); obtain ⟨d0, d1, d2, d3, d4⟩ := H10.out.getC (g := gd) (u := v) (by simp); clear b9; have tk1 := tk0; clear tk0))
     | (have _t := tk1; go_at_call 22; clear _t; go_loud (refine (rbsame_any u.sy v.sy _ _ _ _ u.ys v.ys _ (H10.out.getU (g := gc) (u := u) (by simp)).2.1 (H10.out.getU (g := gd) (u := v) (by simp)).2.1 (by omega)).mono ?_; rintro e w10 ⟨rfl, b10⟩; rw [HBY.out]; have H11 := Lib.hid (H10.out.step b10); obtain ⟨c0, c1, c2, c3, c4⟩ := H11.out.getC (g := gc) (u := u) (by simp); obtain ⟨d0, d1, d2, d3, d4⟩ := H11.out.getC (g := gd) (u := v) (by simp); clear b10; have tk2 := tk1; clear tk1)))
    obtain ⟨W0, hW0⟩ : ∃ W0 : World, W0 = w10.drew := ⟨_, rfl⟩
    have T0 := Lib.hid (H11.out.step (Below.drew' (Below.refl _ w10)))
    rw [← hW0] at T0
    refine wp_region_noPanic ?_
    refine wp_region_held (S := fun w' => w'.cell? ⟨gb, 0, none⟩ = some (.slice Ab qn cb) ∧ w'.cell? ⟨g8, 0, none⟩ = some (.slice A8 pn c8) ∧ w'.cell? ⟨g5, 0, none⟩ = some (.slice A5 qn c5) ∧ (w'.cell? ⟨gc, 0, none⟩ = some (.bool u.sx) ∧ w'.cell? ⟨gc, 1, none⟩ = some (.slice u.ax u.xs.length u.cx) ∧ w'.cell? ⟨gc, 2, none⟩ = some (.bool u.sy) ∧ w'.cell? ⟨gc, 3, none⟩ = some (.slice u.ay u.ys.length u.cy) ∧ w'.cell? ⟨gc, 4, none⟩ = some (.int .u8 u.st)) ∧ (w'.cell? ⟨gd, 0, none⟩ = some (.bool v.sx) ∧ w'.cell? ⟨gd, 1, none⟩ = some (.slice v.ax v.xs.length v.cx) ∧ w'.cell? ⟨gd, 2, none⟩ = some (.bool v.sy) ∧ w'.cell? ⟨gd, 3, none⟩ = some (.slice v.ay v.ys.length v.cy) ∧ w'.cell? ⟨gd, 4, none⟩ = some (.int .u8 v.st))) (by kernel_rfl) ?_
    change wpAnyH _ _ _ _ _ _ _ _ w10.drew
    rw [← hW0]
    clear hW0 c0 c1 c2 c3 c4 d0 d1 d2 d3 d4
    have hS := (And.intro (T0.out.getB (g := gb) (v := .slice Ab qn cb) (by simp)) (And.intro (T0.out.getB (g := g8) (v := .slice A8 pn c8) (by simp)) (And.intro (T0.out.getB (g := g5) (v := .slice A5 qn c5) (by simp)) (And.intro (T0.out.getC (g := gc) (u := u) (by simp)) (T0.out.getC (g := gd) (u := v) (by simp))))))
    refine wpAnyH_take (i := 0) (v := ?_) rfl (by kernel_rfl) (by kernel_rfl) (by kernel_rfl) (fun _ _ _ h => h) (Or.inl ⟨by rfl, ?_⟩) hS ?_
    rotate_left
    ·
     rintro w' ⟨s1, s2, s3, ⟨s4, s5, s6, s7, s8⟩, s9, s10, s11, s12, s13⟩
     go_simp
     first | done | with_reducible rfl | rfl
    simp only [Act.put, LA]
    refine wpAnyH_take (i := 1) (v := ?_) rfl (by kernel_rfl) (by kernel_rfl) (by kernel_rfl) (fun _ _ _ h => h) (Or.inl ⟨by rfl, ?_⟩) hS ?_
    rotate_left
    ·
     rintro w' ⟨s1, s2, s3, ⟨s4, s5, s6, s7, s8⟩, s9, s10, s11, s12, s13⟩
     go_simp
     first | done | with_reducible rfl | rfl
    simp only [Act.put, LA]
    refine wpAnyH_take (i := 2) (v := ?_) rfl (by kernel_rfl) (by kernel_rfl) (by kernel_rfl) (fun _ _ _ h => h) (Or.inl ⟨by rfl, ?_⟩) hS ?_
    rotate_left
    ·
     rintro w' ⟨s1, s2, s3, ⟨s4, s5, s6, s7, s8⟩, s9, s10, s11, s12, s13⟩
     go_simp
     first | done | with_reducible rfl | rfl
    simp only [Act.put, LA]
    refine wpAnyH_take (i := 3) (v := ?_) rfl (by kernel_rfl) (by kernel_rfl) (by kernel_rfl) (fun _ _ _ h => h) (Or.inl ⟨by rfl, ?_⟩) hS ?_
    rotate_left
    ·
     rintro w' ⟨s1, s2, s3, ⟨s4, s5, s6, s7, s8⟩, s9, s10, s11, s12, s13⟩
     go_simp
     first | done | with_reducible rfl | rfl
    simp only [Act.put, LA]
    refine wpAnyH_take (i := 4) (v := ?_) rfl (by kernel_rfl) (by kernel_rfl) (by kernel_rfl) (fun _ _ _ h => h) (Or.inl ⟨by rfl, ?_⟩) hS ?_
    rotate_left
    ·
     rintro w' ⟨s1, s2, s3, ⟨s4, s5, s6, s7, s8⟩, s9, s10, s11, s12, s13⟩
     go_simp
     first | done | with_reducible rfl | rfl
    simp only [Act.put, LA]
    refine wpAnyH_take (i := 6) (v := ?_) rfl (by kernel_rfl) (by kernel_rfl) (by kernel_rfl) (fun _ _ _ h => h) (Or.inl ⟨by rfl, ?_⟩) hS ?_
    rotate_left
    ·
     rintro w' ⟨s1, s2, s3, ⟨s4, s5, s6, s7, s8⟩, s9, s10, s11, s12, s13⟩
     go_simp
     first | done | with_reducible rfl | rfl
    simp only [Act.put, LA]
    refine wpAnyH_take (i := 7) (v := ?_) rfl (by kernel_rfl) (by kernel_rfl) (by kernel_rfl) (fun _ _ _ h => h) (Or.inl ⟨by rfl, ?_⟩) hS ?_
    rotate_left
    ·
     rintro w' ⟨s1, s2, s3, ⟨s4, s5, s6, s7, s8⟩, s9, s10, s11, s12, s13⟩
     go_simp
     first | done | with_reducible rfl | rfl
    simp only [Act.put, LA]
    refine wpAnyH_ready (rs := [5]) (by kernel_rfl) (by simp) (AllReadyH.cons rfl (fun K hK => ?_) AllReadyH.nil)
    go_simp
    refine (get_bw A8 c8 pn p v.bx v.by_ _ _ _ (T0.out.getN (A := A8) (c := c8) (l := p) (by simp)) HPN.out.symm HSO.out.1.1 (cv_r (T0.out.getU (g := gd) (u := v) (by simp)) K3.out K4.out).1 (cv_r (T0.out.getU (g := gd) (u := v) (by simp)) K3.out K4.out).2 (by show v.xs.length ≤ _; omega) (by show v.ys.length ≤ _; omega)).mono ?_
    rintro e W1 ⟨rfl, b⟩
    dsimp only
    rw [HSO.out.get, if_pos HXY.out]
    have T1 := Lib.hid (T0.out.step b)
    clear b
    have hS := (And.intro (T1.out.getB (g := gb) (v := .slice Ab qn cb) (by simp)) (And.intro (T1.out.getB (g := g8) (v := .slice A8 pn c8) (by simp)) (And.intro (T1.out.getB (g := g5) (v := .slice A5 qn c5) (by simp)) (And.intro (T1.out.getC (g := gc) (u := u) (by simp)) (T1.out.getC (g := gd) (u := v) (by simp))))))
    refine hK.out _ _ hS (fun _ => ?_)
    clear hK K
    refine wpAnyH_take (i := 8) (v := ?_) rfl (by kernel_rfl) (by kernel_rfl) (by kernel_rfl) (fun _ _ _ h => h) (Or.inl ⟨by rfl, ?_⟩) hS ?_
    rotate_left
    ·
     rintro w' ⟨s1, s2, s3, ⟨s4, s5, s6, s7, s8⟩, s9, s10, s11, s12, s13⟩
     go_simp
     first | done | with_reducible rfl | rfl
    simp only [Act.put, LA]
    refine wpAnyH_take (i := 9) (v := ?_) rfl (by kernel_rfl) (by kernel_rfl) (by kernel_rfl) (fun _ _ _ h => h) (Or.inl ⟨by rfl, ?_⟩) hS ?_
    rotate_left
    ·
     rintro w' ⟨s1, s2, s3, ⟨s4, s5, s6, s7, s8⟩, s9, s10, s11, s12, s13⟩
     go_simp
     first | done | with_reducible rfl | rfl
    simp only [Act.put, LA]
    refine wpAnyH_take (i := 10) (v := undef) rfl (by kernel_rfl) (by kernel_rfl) (by kernel_rfl) (fun _ _ _ h => h) (Or.inr ⟨by rfl, rfl⟩) hS ?_
    simp only [Act.put, LA]
    refine wpAnyH_take (i := 11) (v := undef) rfl (by kernel_rfl) (by kernel_rfl) (by kernel_rfl) (fun _ _ _ h => h) (Or.inr ⟨by rfl, rfl⟩) hS ?_
    simp only [Act.put, LA]
    refine wpAnyH_take (i := 12) (v := undef) rfl (by kernel_rfl) (by kernel_rfl) (by kernel_rfl) (fun _ _ _ h => h) (Or.inr ⟨by rfl, rfl⟩) hS ?_
    simp only [Act.put, LA]
    refine wpAnyH_take (i := 13) (v := ?_) rfl (by kernel_rfl) (by kernel_rfl) (by kernel_rfl) (fun _ _ _ h => h) (Or.inl ⟨by rfl, ?_⟩) hS ?_
    rotate_left
    ·
     rintro w' ⟨s1, s2, s3, ⟨s4, s5, s6, s7, s8⟩, s9, s10, s11, s12, s13⟩
     go_simp
     first | done | with_reducible rfl | rfl
    simp only [Act.put, LA]
    refine wpAnyH_take (i := 14) (v := ?_) rfl (by kernel_rfl) (by kernel_rfl) (by kernel_rfl) (fun _ _ _ h => h) (Or.inl ⟨by rfl, ?_⟩) hS ?_
    rotate_left
    ·
     rintro w' ⟨s1, s2, s3, ⟨s4, s5, s6, s7, s8⟩, s9, s10, s11, s12, s13⟩
     go_simp
     first | done | with_reducible rfl | rfl
    simp only [Act.put, LA]
    refine wpAnyH_done (by kernel_rfl) ?_ _
    refine NoPanic.normal ?_
    go_wp2_with fail
    go_ret
    exact ⟨rfl, T1.out.b⟩
   | false =>
    have HBY := Lib.hid hby
    have HXY := Lib.hid (show ¬ (ival v.sx v.xs = ival u.sx u.xs ∧ ival v.sy v.ys = ival u.sy u.ys) from fun e => by have := (HSM.out.1 e).2; rw [hby] at this; cases this)
    clear hbx hby
    go_wp2_with (first
     | (have _t := tk0; go_at_call 22; clear _t; go_loud (refine (rbsame_any u.sx v.sx _ _ _ _ u.xs v.xs _ (H9.out.getU (g := gc) (u := u) (by simp)).1 (H9.out.getU (g := gd) (u := v) (by simp)).1 (by omega)).mono ?_; rintro e w9 ⟨rfl, b9⟩; rw [HBX.out]; have H10 := Lib.hid (H9.out.step b9); obtain ⟨c0, c1, c2, c3, c4⟩ := H10.out.getC (g := gc) (u := u) (by simp); obtain ⟨d0, d1, d2, d3, d4⟩ := H10.out.getC (g := gd) (u := v) (by simp); clear b9; have tk1 := tk0; clear tk0))
     | (have _t := tk1; go_at_call 22; clear _t; go_loud (refine (rbsame_any u.sy v.sy _ _ _ _ u.ys v.ys _ (H10.out.getU (g := gc) (u := u) (by simp)).2.1 (H10.out.getU (g := gd) (u := v) (by simp)).2.1 (by omega)).mono ?_; rintro e w10 ⟨rfl, b10⟩; rw [HBY.out]; have H11 := Lib.hid (H10.out.step b10); obtain ⟨c0, c1, c2, c3, c4⟩ := H11.out.getC (g := gc) (u := u) (by simp); obtain ⟨d0, d1, d2, d3, d4⟩ := H11.out.getC (g := gd) (u := v) (by simp); clear b10; have tk2 := tk1; clear tk1)))
    obtain ⟨W0, hW0⟩ : ∃ W0 : World, W0 = w10.drew := ⟨_, rfl⟩
    have T0 := Lib.hid (H11.out.step (Below.drew' (Below.refl _ w10)))
    rw [← hW0] at T0
    refine wp_region_noPanic ?_
    refine wp_region_held (S := fun w' => w'.cell? ⟨gb, 0, none⟩ = some (.slice Ab qn cb) ∧ w'.cell? ⟨g8, 0, none⟩ = some (.slice A8 pn c8) ∧ w'.cell? ⟨g5, 0, none⟩ = some (.slice A5 qn c5) ∧ (w'.cell? ⟨gc, 0, none⟩ = some (.bool u.sx) ∧ w'.cell? ⟨gc, 1, none⟩ = some (.slice u.ax u.xs.length u.cx) ∧ w'.cell? ⟨gc, 2, none⟩ = some (.bool u.sy) ∧ w'.cell? ⟨gc, 3, none⟩ = some (.slice u.ay u.ys.length u.cy) ∧ w'.cell? ⟨gc, 4, none⟩ = some (.int .u8 u.st)) ∧ (w'.cell? ⟨gd, 0, none⟩ = some (.bool v.sx) ∧ w'.cell? ⟨gd, 1, none⟩ = some (.slice v.ax v.xs.length v.cx) ∧ w'.cell? ⟨gd, 2, none⟩ = some (.bool v.sy) ∧ w'.cell? ⟨gd, 3, none⟩ = some (.slice v.ay v.ys.length v.cy) ∧ w'.cell? ⟨gd, 4, none⟩ = some (.int .u8 v.st))) (by kernel_rfl) ?_
    change wpAnyH _ _ _ _ _ _ _ _ w10.drew
    rw [← hW0]
    clear hW0 c0 c1 c2 c3 c4 d0 d1 d2 d3 d4
    have hS := (And.intro (T0.out.getB (g := gb) (v := .slice Ab qn cb) (by simp)) (And.intro (T0.out.getB (g := g8) (v := .slice A8 pn c8) (by simp)) (And.intro (T0.out.getB (g := g5) (v := .slice A5 qn c5) (by simp)) (And.intro (T0.out.getC (g := gc) (u := u) (by simp)) (T0.out.getC (g := gd) (u := v) (by simp))))))
    refine wpAnyH_take (i := 0) (v := ?_) rfl (by kernel_rfl) (by kernel_rfl) (by kernel_rfl) (fun _ _ _ h => h) (Or.inl ⟨by rfl, ?_⟩) hS ?_
    rotate_left
    ·
     rintro w' ⟨s1, s2, s3, ⟨s4, s5, s6, s7, s8⟩, s9, s10, s11, s12, s13⟩
     go_simp
     first | done | with_reducible rfl | rfl
    simp only [Act.put, LA]
    refine wpAnyH_take (i := 1) (v := ?_) rfl (by kernel_rfl) (by kernel_rfl) (by kernel_rfl) (fun _ _ _ h => h) (Or.inl ⟨by rfl, ?_⟩) hS ?_
    rotate_left
    ·
     rintro w' ⟨s1, s2, s3, ⟨s4, s5, s6, s7, s8⟩, s9, s10, s11, s12, s13⟩
     go_simp
     first | done | with_reducible rfl | rfl
    simp only [Act.put, LA]
    refine wpAnyH_take (i := 2) (v := ?_) rfl (by kernel_rfl) (by kernel_rfl) (by kernel_rfl) (fun _ _ _ h => h) (Or.inl ⟨by rfl, ?_⟩) hS ?_
    rotate_left
    ·
     rintro w' ⟨s1, s2, s3, ⟨s4, s5, s6, s7, s8⟩, s9, s10, s11, s12, s13⟩
     go_simp
     first | done | with_reducible rfl | rfl
    simp only [Act.put, LA]
    refine wpAnyH_take (i := 3) (v := ?_) rfl (by kernel_rfl) (by kernel_rfl) (by kernel_rfl) (fun _ _ _ h => h) (Or.inl ⟨by rfl, ?_⟩) hS ?_
    rotate_left
    ·
     rintro w' ⟨s1, s2, s3, ⟨s4, s5, s6, s7, s8⟩, s9, s10, s11, s12, s13⟩
     go_simp
     first | done | with_reducible rfl | rfl
    simp only [Act.put, LA]
    refine wpAnyH_take (i := 4) (v := ?_) rfl (by kernel_rfl) (by kernel_rfl) (by kernel_rfl) (fun _ _ _ h => h) (Or.inl ⟨by rfl, ?_⟩) hS ?_
    rotate_left
    ·
     rintro w' ⟨s1, s2, s3, ⟨s4, s5, s6, s7, s8⟩, s9, s10, s11, s12, s13⟩
     go_simp
     first | done | with_reducible rfl | rfl
    simp only [Act.put, LA]
    refine wpAnyH_ready (rs := [5]) (by kernel_rfl) (by simp) (AllReadyH.cons rfl (fun K hK => ?_) AllReadyH.nil)
    go_simp
    refine (rsame_any Ab A5 cb c5 qn qn q q _ (T0.out.getN (A := Ab) (c := cb) (l := q) (by simp)) (T0.out.getN (A := A5) (c := c5) (l := q) (by simp)) HQN.out HQN.out).mono ?_
    rintro e W1 ⟨rfl, b⟩
    dsimp only
    rw [show decide (q = q) = true from decide_eq_true rfl]
    have T1 := Lib.hid (T0.out.step b)
    clear b
    have hS := (And.intro (T1.out.getB (g := gb) (v := .slice Ab qn cb) (by simp)) (And.intro (T1.out.getB (g := g8) (v := .slice A8 pn c8) (by simp)) (And.intro (T1.out.getB (g := g5) (v := .slice A5 qn c5) (by simp)) (And.intro (T1.out.getC (g := gc) (u := u) (by simp)) (T1.out.getC (g := gd) (u := v) (by simp))))))
    refine hK.out _ _ hS (fun _ => ?_)
    clear hK K
    refine wpAnyH_take (i := 6) (v := ?_) rfl (by kernel_rfl) (by kernel_rfl) (by kernel_rfl) (fun _ _ _ h => h) (Or.inl ⟨by rfl, ?_⟩) hS ?_
    rotate_left
    ·
     rintro w' ⟨s1, s2, s3, ⟨s4, s5, s6, s7, s8⟩, s9, s10, s11, s12, s13⟩
     go_simp
     first | done | with_reducible rfl | rfl
    simp only [Act.put, LA]
    refine wpAnyH_take (i := 7) (v := ?_) rfl (by kernel_rfl) (by kernel_rfl) (by kernel_rfl) (fun _ _ _ h => h) (Or.inl ⟨by rfl, ?_⟩) hS ?_
    rotate_left
    ·
     rintro w' ⟨s1, s2, s3, ⟨s4, s5, s6, s7, s8⟩, s9, s10, s11, s12, s13⟩
     go_simp
     first | done | with_reducible rfl | rfl
    simp only [Act.put, LA]
    refine wpAnyH_take (i := 8) (v := ?_) rfl (by kernel_rfl) (by kernel_rfl) (by kernel_rfl) (fun _ _ _ h => h) (Or.inl ⟨by rfl, ?_⟩) hS ?_
    rotate_left
    ·
     rintro w' ⟨s1, s2, s3, ⟨s4, s5, s6, s7, s8⟩, s9, s10, s11, s12, s13⟩
     go_simp
     first | done | with_reducible rfl | rfl
    simp only [Act.put, LA]
    refine wpAnyH_take (i := 9) (v := ?_) rfl (by kernel_rfl) (by kernel_rfl) (by kernel_rfl) (fun _ _ _ h => h) (Or.inl ⟨by rfl, ?_⟩) hS ?_
    rotate_left
    ·
     rintro w' ⟨s1, s2, s3, ⟨s4, s5, s6, s7, s8⟩, s9, s10, s11, s12, s13⟩
     go_simp
     first | done | with_reducible rfl | rfl
    simp only [Act.put, LA]
    refine wpAnyH_take (i := 10) (v := ?_) rfl (by kernel_rfl) (by kernel_rfl) (by kernel_rfl) (fun _ _ _ h => h) (Or.inl ⟨by rfl, ?_⟩) hS ?_
    rotate_left
    ·
     rintro w' ⟨s1, s2, s3, ⟨s4, s5, s6, s7, s8⟩, s9, s10, s11, s12, s13⟩
     go_simp
     first | done | with_reducible rfl | rfl
    simp only [Act.put, LA]
    refine wpAnyH_take (i := 11) (v := ?_) rfl (by kernel_rfl) (by kernel_rfl) (by kernel_rfl) (fun _ _ _ h => h) (Or.inl ⟨by rfl, ?_⟩) hS ?_
    rotate_left
    ·
     rintro w' ⟨s1, s2, s3, ⟨s4, s5, s6, s7, s8⟩, s9, s10, s11, s12, s13⟩
     go_simp
     first | done | with_reducible rfl | rfl
    simp only [Act.put, LA]
    refine wpAnyH_take (i := 12) (v := ?_) rfl (by kernel_rfl) (by kernel_rfl) (by kernel_rfl) (fun _ _ _ h => h) (Or.inl ⟨by rfl, ?_⟩) hS ?_
    rotate_left
    ·
     rintro w' ⟨s1, s2, s3, ⟨s4, s5, s6, s7, s8⟩, s9, s10, s11, s12, s13⟩
     go_simp
     first | done | with_reducible rfl | rfl
    simp only [Act.put, LA]
    refine wpAnyH_take (i := 14) (v := ?_) rfl (by kernel_rfl) (by kernel_rfl) (by kernel_rfl) (fun _ _ _ h => h) (Or.inl ⟨by rfl, ?_⟩) hS ?_
    rotate_left
    ·
     rintro w' ⟨s1, s2, s3, ⟨s4, s5, s6, s7, s8⟩, s9, s10, s11, s12, s13⟩
     go_simp
     first | done | with_reducible rfl | rfl
    simp only [Act.put, LA]
    refine wpAnyH_take (i := 15) (v := ?_) rfl (by kernel_rfl) (by kernel_rfl) (by kernel_rfl) (fun _ _ _ h => h) (Or.inl ⟨by rfl, ?_⟩) hS ?_
    rotate_left
    ·
     rintro w' ⟨s1, s2, s3, ⟨s4, s5, s6, s7, s8⟩, s9, s10, s11, s12, s13⟩
     go_simp
     first | done | with_reducible rfl | rfl
    simp only [Act.put, LA]
    refine wpAnyH_ready (rs := [13]) (by kernel_rfl) (by simp) (AllReadyH.cons rfl (fun K hK => ?_) AllReadyH.nil)
    go_simp
    refine (get_bw A8 c8 pn p u.bx u.by_ _ _ _ (T1.out.getN (A := A8) (c := c8) (l := p) (by simp)) HPN.out.symm HSO.out.1.1 (cv_r (T1.out.getU (g := gc) (u := u) (by simp)) K1.out K2.out).1 (cv_r (T1.out.getU (g := gc) (u := u) (by simp)) K1.out K2.out).2 (by show u.xs.length ≤ _; omega) (by show u.ys.length ≤ _; omega)).mono ?_
    rintro e W2 ⟨rfl, b⟩
    dsimp only
    rw [HSO.out.get, if_pos ⟨rfl, rfl⟩]
    have T2 := Lib.hid (T1.out.step b)
    clear b
    have hS := (And.intro (T2.out.getB (g := gb) (v := .slice Ab qn cb) (by simp)) (And.intro (T2.out.getB (g := g8) (v := .slice A8 pn c8) (by simp)) (And.intro (T2.out.getB (g := g5) (v := .slice A5 qn c5) (by simp)) (And.intro (T2.out.getC (g := gc) (u := u) (by simp)) (T2.out.getC (g := gd) (u := v) (by simp))))))
    refine hK.out _ _ hS (fun _ => ?_)
    clear hK K
    refine wpAnyH_take (i := 16) (v := ?_) rfl (by kernel_rfl) (by kernel_rfl) (by kernel_rfl) (fun _ _ _ h => h) (Or.inl ⟨by rfl, ?_⟩) hS ?_
    rotate_left
    ·
     rintro w' ⟨s1, s2, s3, ⟨s4, s5, s6, s7, s8⟩, s9, s10, s11, s12, s13⟩
     go_simp
     first | done | with_reducible rfl | rfl
    simp only [Act.put, LA]
    refine wpAnyH_take (i := 17) (v := ?_) rfl (by kernel_rfl) (by kernel_rfl) (by kernel_rfl) (fun _ _ _ h => h) (Or.inl ⟨by rfl, ?_⟩) hS ?_
    rotate_left
    ·
     rintro w' ⟨s1, s2, s3, ⟨s4, s5, s6, s7, s8⟩, s9, s10, s11, s12, s13⟩
     go_simp
     first | done | with_reducible rfl | rfl
    simp only [Act.put, LA]
    refine wpAnyH_take (i := 18) (v := ?_) rfl (by kernel_rfl) (by kernel_rfl) (by kernel_rfl) (fun _ _ _ h => h) (Or.inl ⟨by rfl, ?_⟩) hS ?_
    rotate_left
    ·
     rintro w' ⟨s1, s2, s3, ⟨s4, s5, s6, s7, s8⟩, s9, s10, s11, s12, s13⟩
     go_simp
     first | done | with_reducible rfl | rfl
    simp only [Act.put, LA]
    refine wpAnyH_take (i := 19) (v := ?_) rfl (by kernel_rfl) (by kernel_rfl) (by kernel_rfl) (fun _ _ _ h => h) (Or.inl ⟨by rfl, ?_⟩) hS ?_
    rotate_left
    ·
     rintro w' ⟨s1, s2, s3, ⟨s4, s5, s6, s7, s8⟩, s9, s10, s11, s12, s13⟩
     go_simp
     first | done | with_reducible rfl | rfl
    simp only [Act.put, LA]
    refine wpAnyH_take (i := 20) (v := ?_) rfl (by kernel_rfl) (by kernel_rfl) (by kernel_rfl) (fun _ _ _ h => h) (Or.inl ⟨by rfl, ?_⟩) hS ?_
    rotate_left
    ·
     rintro w' ⟨s1, s2, s3, ⟨s4, s5, s6, s7, s8⟩, s9, s10, s11, s12, s13⟩
     go_simp
     first | done | with_reducible rfl | rfl
    simp only [Act.put, LA]
    refine wpAnyH_take (i := 21) (v := ?_) rfl (by kernel_rfl) (by kernel_rfl) (by kernel_rfl) (fun _ _ _ h => h) (Or.inl ⟨by rfl, ?_⟩) hS ?_
    rotate_left
    ·
     rintro w' ⟨s1, s2, s3, ⟨s4, s5, s6, s7, s8⟩, s9, s10, s11, s12, s13⟩
     go_simp
     first | done | with_reducible rfl | rfl
    simp only [Act.put, LA]
    refine wpAnyH_take (i := 22) (v := ?_) rfl (by kernel_rfl) (by kernel_rfl) (by kernel_rfl) (fun _ _ _ h => h) (Or.inl ⟨by rfl, ?_⟩) hS ?_
    rotate_left
    ·
     rintro w' ⟨s1, s2, s3, ⟨s4, s5, s6, s7, s8⟩, s9, s10, s11, s12, s13⟩
     go_simp
     first | done | with_reducible rfl | rfl
    simp only [Act.put, LA]
    refine wpAnyH_take (i := 23) (v := ?_) rfl (by kernel_rfl) (by kernel_rfl) (by kernel_rfl) (fun _ _ _ h => h) (Or.inl ⟨by rfl, ?_⟩) hS ?_
    rotate_left
    ·
     rintro w' ⟨s1, s2, s3, ⟨s4, s5, s6, s7, s8⟩, s9, s10, s11, s12, s13⟩
     go_simp
     first | done | with_reducible rfl | rfl
    simp only [Act.put, LA]
    refine wpAnyH_take (i := 25) (v := ?_) rfl (by kernel_rfl) (by kernel_rfl) (by kernel_rfl) (fun _ _ _ h => h) (Or.inl ⟨by rfl, ?_⟩) hS ?_
    rotate_left
    ·
     rintro w' ⟨s1, s2, s3, ⟨s4, s5, s6, s7, s8⟩, s9, s10, s11, s12, s13⟩
     go_simp
     first | done | with_reducible rfl | rfl
    simp only [Act.put, LA]
    refine wpAnyH_take (i := 26) (v := ?_) rfl (by kernel_rfl) (by kernel_rfl) (by kernel_rfl) (fun _ _ _ h => h) (Or.inl ⟨by rfl, ?_⟩) hS ?_
    rotate_left
    ·
     rintro w' ⟨s1, s2, s3, ⟨s4, s5, s6, s7, s8⟩, s9, s10, s11, s12, s13⟩
     go_simp
     first | done | with_reducible rfl | rfl
    simp only [Act.put, LA]
    refine wpAnyH_take (i := 27) (v := ?_) rfl (by kernel_rfl) (by kernel_rfl) (by kernel_rfl) (fun _ _ _ h => h) (Or.inl ⟨by rfl, ?_⟩) hS ?_
    rotate_left
    ·
     rintro w' ⟨s1, s2, s3, ⟨s4, s5, s6, s7, s8⟩, s9, s10, s11, s12, s13⟩
     go_simp
     first | done | with_reducible rfl | rfl
    simp only [Act.put, LA]
    refine wpAnyH_take (i := 28) (v := ?_) rfl (by kernel_rfl) (by kernel_rfl) (by kernel_rfl) (fun _ _ _ h => h) (Or.inl ⟨by rfl, ?_⟩) hS ?_
    rotate_left
    ·
     rintro w' ⟨s1, s2, s3, ⟨s4, s5, s6, s7, s8⟩, s9, s10, s11, s12, s13⟩
     go_simp
     first | done | with_reducible rfl | rfl
    simp only [Act.put, LA]
    refine wpAnyH_take (i := 29) (v := ?_) rfl (by kernel_rfl) (by kernel_rfl) (by kernel_rfl) (fun _ _ _ h => h) (Or.inl ⟨by rfl, ?_⟩) hS ?_
    rotate_left
    ·
     rintro w' ⟨s1, s2, s3, ⟨s4, s5, s6, s7, s8⟩, s9, s10, s11, s12, s13⟩
     go_simp
     first | done | with_reducible rfl | rfl
    simp only [Act.put, LA]
    refine wpAnyH_ready (rs := [24]) (by kernel_rfl) (by simp) (AllReadyH.cons rfl (fun K hK => ?_) AllReadyH.nil)
    go_simp
    refine (get_bw A8 c8 pn p v.bx v.by_ _ _ _ (T2.out.getN (A := A8) (c := c8) (l := p) (by simp)) HPN.out.symm HSO.out.1.1 (cv_r (T2.out.getU (g := gd) (u := v) (by simp)) K3.out K4.out).1 (cv_r (T2.out.getU (g := gd) (u := v) (by simp)) K3.out K4.out).2 (by show v.xs.length ≤ _; omega) (by show v.ys.length ≤ _; omega)).mono ?_
    rintro e W3 ⟨rfl, b⟩
    dsimp only
    rw [HSO.out.get, if_neg HXY.out]
    have T3 := Lib.hid (T2.out.step b)
    clear b
    have hS := (And.intro (T3.out.getB (g := gb) (v := .slice Ab qn cb) (by simp)) (And.intro (T3.out.getB (g := g8) (v := .slice A8 pn c8) (by simp)) (And.intro (T3.out.getB (g := g5) (v := .slice A5 qn c5) (by simp)) (And.intro (T3.out.getC (g := gc) (u := u) (by simp)) (T3.out.getC (g := gd) (u := v) (by simp))))))
    refine hK.out _ _ hS (fun _ => ?_)
    clear hK K
    refine wpAnyH_ready (rs := [30]) (by kernel_rfl) (by simp) (AllReadyH.cons rfl (fun K hK => ?_) AllReadyH.nil)
    go_simp
    refine (get_bw A5 c5 qn q v.bx v.by_ _ _ _ (T3.out.getN (A := A5) (c := c5) (l := q) (by simp)) HQN.out HQS.out.1 (cv_r (T3.out.getU (g := gd) (u := v) (by simp)) K3.out K4.out).1 (cv_r (T3.out.getU (g := gd) (u := v) (by simp)) K3.out K4.out).2 (by show v.xs.length ≤ _; omega) (by show v.ys.length ≤ _; omega)).mono ?_
    rintro e W4 ⟨rfl, b⟩
    dsimp only
    have T4 := Lib.hid (T3.out.step b)
    clear b
    have hS := (And.intro (T4.out.getB (g := gb) (v := .slice Ab qn cb) (by simp)) (And.intro (T4.out.getB (g := g8) (v := .slice A8 pn c8) (by simp)) (And.intro (T4.out.getB (g := g5) (v := .slice A5 qn c5) (by simp)) (And.intro (T4.out.getC (g := gc) (u := u) (by simp)) (T4.out.getC (g := gd) (u := v) (by simp))))))
    refine hK.out _ _ hS (fun _ => ?_)
    clear hK K
    refine wpAnyH_take (i := 31) (v := ?_) rfl (by kernel_rfl) (by kernel_rfl) (by kernel_rfl) (fun _ _ _ h => h) (Or.inl ⟨by rfl, ?_⟩) hS ?_
    rotate_left
    ·
     rintro w' ⟨s1, s2, s3, ⟨s4, s5, s6, s7, s8⟩, s9, s10, s11, s12, s13⟩
     go_simp
     first | done | with_reducible rfl | rfl
    simp only [Act.put, LA]
    refine wpAnyH_take (i := 32) (v := ?_) rfl (by kernel_rfl) (by kernel_rfl) (by kernel_rfl) (fun _ _ _ h => h) (Or.inl ⟨by rfl, ?_⟩) hS ?_
    rotate_left
    ·
     rintro w' ⟨s1, s2, s3, ⟨s4, s5, s6, s7, s8⟩, s9, s10, s11, s12, s13⟩
     go_simp
     first | done | with_reducible rfl | rfl
    simp only [Act.put, LA]
    refine wpAnyH_take (i := 33) (v := ?_) rfl (by kernel_rfl) (by kernel_rfl) (by kernel_rfl) (fun _ _ _ h => h) (Or.inl ⟨by rfl, ?_⟩) hS ?_
    rotate_left
    ·
     rintro w' ⟨s1, s2, s3, ⟨s4, s5, s6, s7, s8⟩, s9, s10, s11, s12, s13⟩
     go_simp
     first | done | with_reducible rfl | rfl
    simp only [Act.put, LA]
    refine wpAnyH_done (by kernel_rfl) ?_ _
    refine NoPanic.normal ?_
    go_wp2_with fail
    go_ret
    exact ⟨rfl, T4.out.b⟩
  | false =>
   have HBX := Lib.hid hbx
   have HXY := Lib.hid (show ¬ (ival v.sx v.xs = ival u.sx u.xs ∧ ival v.sy v.ys = ival u.sy u.ys) from fun e => by have := (HSM.out.1 e).1; rw [hbx] at this; cases this)
   clear hbx
   go_wp2_with (first
    | (have _t := tk0; go_at_call 22; clear _t; go_loud (refine (rbsame_any u.sx v.sx _ _ _ _ u.xs v.xs _ (H9.out.getU (g := gc) (u := u) (by simp)).1 (H9.out.getU (g := gd) (u := v) (by simp)).1 (by omega)).mono ?_; rintro e w9 ⟨rfl, b9⟩; rw [HBX.out]; have H10 := Lib.hid (H9.out.step b9); obtain ⟨c0, c1, c2, c3, c4⟩ := H10.out.getC (g := gc) (u := u) (by simp); obtain ⟨d0, d1, d2, d3, d4⟩ := H10.out.getC (g := gd) (u := v) (by simp); clear b9; have tk1 := tk0; clear tk0)))
   obtain ⟨W0, hW0⟩ : ∃ W0 : World, W0 = w9.drew := ⟨_, rfl⟩
   have T0 := Lib.hid (H10.out.step (Below.drew' (Below.refl _ w9)))
   rw [← hW0] at T0
   refine wp_region_noPanic ?_
   refine wp_region_held (S := fun w' => w'.cell? ⟨gb, 0, none⟩ = some (.slice Ab qn cb) ∧ w'.cell? ⟨g8, 0, none⟩ = some (.slice A8 pn c8) ∧ w'.cell? ⟨g5, 0, none⟩ = some (.slice A5 qn c5) ∧ (w'.cell? ⟨gc, 0, none⟩ = some (.bool u.sx) ∧ w'.cell? ⟨gc, 1, none⟩ = some (.slice u.ax u.xs.length u.cx) ∧ w'.cell? ⟨gc, 2, none⟩ = some (.bool u.sy) ∧ w'.cell? ⟨gc, 3, none⟩ = some (.slice u.ay u.ys.length u.cy) ∧ w'.cell? ⟨gc, 4, none⟩ = some (.int .u8 u.st)) ∧ (w'.cell? ⟨gd, 0, none⟩ = some (.bool v.sx) ∧ w'.cell? ⟨gd, 1, none⟩ = some (.slice v.ax v.xs.length v.cx) ∧ w'.cell? ⟨gd, 2, none⟩ = some (.bool v.sy) ∧ w'.cell? ⟨gd, 3, none⟩ = some (.slice v.ay v.ys.length v.cy) ∧ w'.cell? ⟨gd, 4, none⟩ = some (.int .u8 v.st))) (by kernel_rfl) ?_
   change wpAnyH _ _ _ _ _ _ _ _ w9.drew
   rw [← hW0]
   clear hW0 c0 c1 c2 c3 c4 d0 d1 d2 d3 d4
   have hS := (And.intro (T0.out.getB (g := gb) (v := .slice Ab qn cb) (by simp)) (And.intro (T0.out.getB (g := g8) (v := .slice A8 pn c8) (by simp)) (And.intro (T0.out.getB (g := g5) (v := .slice A5 qn c5) (by simp)) (And.intro (T0.out.getC (g := gc) (u := u) (by simp)) (T0.out.getC (g := gd) (u := v) (by simp))))))
   refine wpAnyH_take (i := 0) (v := ?_) rfl (by kernel_rfl) (by kernel_rfl) (by kernel_rfl) (fun _ _ _ h => h) (Or.inl ⟨by rfl, ?_⟩) hS ?_
   rotate_left
   ·
    rintro w' ⟨s1, s2, s3, ⟨s4, s5, s6, s7, s8⟩, s9, s10, s11, s12, s13⟩
    go_simp
    first | done | with_reducible rfl | rfl
   simp only [Act.put, LA]
   refine wpAnyH_take (i := 1) (v := ?_) rfl (by kernel_rfl) (by kernel_rfl) (by kernel_rfl) (fun _ _ _ h => h) (Or.inl ⟨by rfl, ?_⟩) hS ?_
   rotate_left
   ·
    rintro w' ⟨s1, s2, s3, ⟨s4, s5, s6, s7, s8⟩, s9, s10, s11, s12, s13⟩
    go_simp
    first | done | with_reducible rfl | rfl
   simp only [Act.put, LA]
   refine wpAnyH_take (i := 2) (v := ?_) rfl (by kernel_rfl) (by kernel_rfl) (by kernel_rfl) (fun _ _ _ h => h) (Or.inl ⟨by rfl, ?_⟩) hS ?_
   rotate_left
   ·
    rintro w' ⟨s1, s2, s3, ⟨s4, s5, s6, s7, s8⟩, s9, s10, s11, s12, s13⟩
    go_simp
    first | done | with_reducible rfl | rfl
   simp only [Act.put, LA]
   refine wpAnyH_take (i := 3) (v := ?_) rfl (by kernel_rfl) (by kernel_rfl) (by kernel_rfl) (fun _ _ _ h => h) (Or.inl ⟨by rfl, ?_⟩) hS ?_
   rotate_left
   ·
    rintro w' ⟨s1, s2, s3, ⟨s4, s5, s6, s7, s8⟩, s9, s10, s11, s12, s13⟩
    go_simp
    first | done | with_reducible rfl | rfl
   simp only [Act.put, LA]
   refine wpAnyH_take (i := 4) (v := ?_) rfl (by kernel_rfl) (by kernel_rfl) (by kernel_rfl) (fun _ _ _ h => h) (Or.inl ⟨by rfl, ?_⟩) hS ?_
   rotate_left
   ·
    rintro w' ⟨s1, s2, s3, ⟨s4, s5, s6, s7, s8⟩, s9, s10, s11, s12, s13⟩
    go_simp
    first | done | with_reducible rfl | rfl
   simp only [Act.put, LA]
   refine wpAnyH_ready (rs := [5]) (by kernel_rfl) (by simp) (AllReadyH.cons rfl (fun K hK => ?_) AllReadyH.nil)
   go_simp
   refine (rsame_any Ab A5 cb c5 qn qn q q _ (T0.out.getN (A := Ab) (c := cb) (l := q) (by simp)) (T0.out.getN (A := A5) (c := c5) (l := q) (by simp)) HQN.out HQN.out).mono ?_
   rintro e W1 ⟨rfl, b⟩
   dsimp only
   rw [show decide (q = q) = true from decide_eq_true rfl]
   have T1 := Lib.hid (T0.out.step b)
   clear b
   have hS := (And.intro (T1.out.getB (g := gb) (v := .slice Ab qn cb) (by simp)) (And.intro (T1.out.getB (g := g8) (v := .slice A8 pn c8) (by simp)) (And.intro (T1.out.getB (g := g5) (v := .slice A5 qn c5) (by simp)) (And.intro (T1.out.getC (g := gc) (u := u) (by simp)) (T1.out.getC (g := gd) (u := v) (by simp))))))
   refine hK.out _ _ hS (fun _ => ?_)
   clear hK K
   refine wpAnyH_take (i := 6) (v := ?_) rfl (by kernel_rfl) (by kernel_rfl) (by kernel_rfl) (fun _ _ _ h => h) (Or.inl ⟨by rfl, ?_⟩) hS ?_
   rotate_left
   ·
    rintro w' ⟨s1, s2, s3, ⟨s4, s5, s6, s7, s8⟩, s9, s10, s11, s12, s13⟩
    go_simp
    first | done | with_reducible rfl | rfl
   simp only [Act.put, LA]
   refine wpAnyH_take (i := 7) (v := ?_) rfl (by kernel_rfl) (by kernel_rfl) (by kernel_rfl) (fun _ _ _ h => h) (Or.inl ⟨by rfl, ?_⟩) hS ?_
   rotate_left
   ·
    rintro w' ⟨s1, s2, s3, ⟨s4, s5, s6, s7, s8⟩, s9, s10, s11, s12, s13⟩
    go_simp
    first | done | with_reducible rfl | rfl
   simp only [Act.put, LA]
   refine wpAnyH_take (i := 8) (v := ?_) rfl (by kernel_rfl) (by kernel_rfl) (by kernel_rfl) (fun _ _ _ h => h) (Or.inl ⟨by rfl, ?_⟩) hS ?_
   rotate_left
   ·
    rintro w' ⟨s1, s2, s3, ⟨s4, s5, s6, s7, s8⟩, s9, s10, s11, s12, s13⟩
    go_simp
    first | done | with_reducible rfl | rfl
   simp only [Act.put, LA]
   refine wpAnyH_take (i := 9) (v := ?_) rfl (by kernel_rfl) (by kernel_rfl) (by kernel_rfl) (fun _ _ _ h => h) (Or.inl ⟨by rfl, ?_⟩) hS ?_
   rotate_left
   ·
    rintro w' ⟨s1, s2, s3, ⟨s4, s5, s6, s7, s8⟩, s9, s10, s11, s12, s13⟩
    go_simp
    first | done | with_reducible rfl | rfl
   simp only [Act.put, LA]
   refine wpAnyH_take (i := 10) (v := ?_) rfl (by kernel_rfl) (by kernel_rfl) (by kernel_rfl) (fun _ _ _ h => h) (Or.inl ⟨by rfl, ?_⟩) hS ?_
   rotate_left
   ·
    rintro w' ⟨s1, s2, s3, ⟨s4, s5, s6, s7, s8⟩, s9, s10, s11, s12, s13⟩
    go_simp
    first | done | with_reducible rfl | rfl
   simp only [Act.put, LA]
   refine wpAnyH_take (i := 11) (v := ?_) rfl (by kernel_rfl) (by kernel_rfl) (by kernel_rfl) (fun _ _ _ h => h) (Or.inl ⟨by rfl, ?_⟩) hS ?_
   rotate_left
   ·
    rintro w' ⟨s1, s2, s3, ⟨s4, s5, s6, s7, s8⟩, s9, s10, s11, s12, s13⟩
    go_simp
    first | done | with_reducible rfl | rfl
   simp only [Act.put, LA]
   refine wpAnyH_take (i := 12) (v := ?_) rfl (by kernel_rfl) (by kernel_rfl) (by kernel_rfl) (fun _ _ _ h => h) (Or.inl ⟨by rfl, ?_⟩) hS ?_
   rotate_left
   ·
    rintro w' ⟨s1, s2, s3, ⟨s4, s5, s6, s7, s8⟩, s9, s10, s11, s12, s13⟩
    go_simp
    first | done | with_reducible rfl | rfl
   simp only [Act.put, LA]
   refine wpAnyH_take (i := 14) (v := ?_) rfl (by kernel_rfl) (by kernel_rfl) (by kernel_rfl) (fun _ _ _ h => h) (Or.inl ⟨by rfl, ?_⟩) hS ?_
   rotate_left
   ·
    rintro w' ⟨s1, s2, s3, ⟨s4, s5, s6, s7, s8⟩, s9, s10, s11, s12, s13⟩
    go_simp
    first | done | with_reducible rfl | rfl
   simp only [Act.put, LA]
   refine wpAnyH_take (i := 15) (v := ?_) rfl (by kernel_rfl) (by kernel_rfl) (by kernel_rfl) (fun _ _ _ h => h) (Or.inl ⟨by rfl, ?_⟩) hS ?_
   rotate_left
   ·
    rintro w' ⟨s1, s2, s3, ⟨s4, s5, s6, s7, s8⟩, s9, s10, s11, s12, s13⟩
    go_simp
    first | done | with_reducible rfl | rfl
   simp only [Act.put, LA]
   refine wpAnyH_ready (rs := [13]) (by kernel_rfl) (by simp) (AllReadyH.cons rfl (fun K hK => ?_) AllReadyH.nil)
   go_simp
   refine (get_bw A8 c8 pn p u.bx u.by_ _ _ _ (T1.out.getN (A := A8) (c := c8) (l := p) (by simp)) HPN.out.symm HSO.out.1.1 (cv_r (T1.out.getU (g := gc) (u := u) (by simp)) K1.out K2.out).1 (cv_r (T1.out.getU (g := gc) (u := u) (by simp)) K1.out K2.out).2 (by show u.xs.length ≤ _; omega) (by show u.ys.length ≤ _; omega)).mono ?_
   rintro e W2 ⟨rfl, b⟩
   dsimp only
   rw [HSO.out.get, if_pos ⟨rfl, rfl⟩]
   have T2 := Lib.hid (T1.out.step b)
   clear b
   have hS := (And.intro (T2.out.getB (g := gb) (v := .slice Ab qn cb) (by simp)) (And.intro (T2.out.getB (g := g8) (v := .slice A8 pn c8) (by simp)) (And.intro (T2.out.getB (g := g5) (v := .slice A5 qn c5) (by simp)) (And.intro (T2.out.getC (g := gc) (u := u) (by simp)) (T2.out.getC (g := gd) (u := v) (by simp))))))
   refine hK.out _ _ hS (fun _ => ?_)
   clear hK K
   refine wpAnyH_take (i := 16) (v := ?_) rfl (by kernel_rfl) (by kernel_rfl) (by kernel_rfl) (fun _ _ _ h => h) (Or.inl ⟨by rfl, ?_⟩) hS ?_
   rotate_left
   ·
    rintro w' ⟨s1, s2, s3, ⟨s4, s5, s6, s7, s8⟩, s9, s10, s11, s12, s13⟩
    go_simp
    first | done | with_reducible rfl | rfl
   simp only [Act.put, LA]
   refine wpAnyH_take (i := 17) (v := ?_) rfl (by kernel_rfl) (by kernel_rfl) (by kernel_rfl) (fun _ _ _ h => h) (Or.inl ⟨by rfl, ?_⟩) hS ?_
   rotate_left
   ·
    rintro w' ⟨s1, s2, s3, ⟨s4, s5, s6, s7, s8⟩, s9, s10, s11, s12, s13⟩
    go_simp
    first | done | with_reducible rfl | rfl
   simp only [Act.put, LA]
   refine wpAnyH_take (i := 18) (v := ?_) rfl (by kernel_rfl) (by kernel_rfl) (by kernel_rfl) (fun _ _ _ h => h) (Or.inl ⟨by rfl, ?_⟩) hS ?_
   rotate_left
   ·
    rintro w' ⟨s1, s2, s3, ⟨s4, s5, s6, s7, s8⟩, s9, s10, s11, s12, s13⟩
    go_simp
    first | done | with_reducible rfl | rfl
   simp only [Act.put, LA]
   refine wpAnyH_take (i := 19) (v := ?_) rfl (by kernel_rfl) (by kernel_rfl) (by kernel_rfl) (fun _ _ _ h => h) (Or.inl ⟨by rfl, ?_⟩) hS ?_
   rotate_left
   ·
    rintro w' ⟨s1, s2, s3, ⟨s4, s5, s6, s7, s8⟩, s9, s10, s11, s12, s13⟩
    go_simp
    first | done | with_reducible rfl | rfl
   simp only [Act.put, LA]
   refine wpAnyH_take (i := 20) (v := ?_) rfl (by kernel_rfl) (by kernel_rfl) (by kernel_rfl) (fun _ _ _ h => h) (Or.inl ⟨by rfl, ?_⟩) hS ?_
   rotate_left
   ·
    rintro w' ⟨s1, s2, s3, ⟨s4, s5, s6, s7, s8⟩, s9, s10, s11, s12, s13⟩
    go_simp
    first | done | with_reducible rfl | rfl
   simp only [Act.put, LA]
   refine wpAnyH_take (i := 21) (v := ?_) rfl (by kernel_rfl) (by kernel_rfl) (by kernel_rfl) (fun _ _ _ h => h) (Or.inl ⟨by rfl, ?_⟩) hS ?_
   rotate_left
   ·
    rintro w' ⟨s1, s2, s3, ⟨s4, s5, s6, s7, s8⟩, s9, s10, s11, s12, s13⟩
    go_simp
    first | done | with_reducible rfl | rfl
   simp only [Act.put, LA]
   refine wpAnyH_take (i := 22) (v := ?_) rfl (by kernel_rfl) (by kernel_rfl) (by kernel_rfl) (fun _ _ _ h => h) (Or.inl ⟨by rfl, ?_⟩) hS ?_
   rotate_left
   ·
    rintro w' ⟨s1, s2, s3, ⟨s4, s5, s6, s7, s8⟩, s9, s10, s11, s12, s13⟩
    go_simp
    first | done | with_reducible rfl | rfl
   simp only [Act.put, LA]
   refine wpAnyH_take (i := 23) (v := ?_) rfl (by kernel_rfl) (by kernel_rfl) (by kernel_rfl) (fun _ _ _ h => h) (Or.inl ⟨by rfl, ?_⟩) hS ?_
   rotate_left
   ·
    rintro w' ⟨s1, s2, s3, ⟨s4, s5, s6, s7, s8⟩, s9, s10, s11, s12, s13⟩
    go_simp
    first | done | with_reducible rfl | rfl
   simp only [Act.put, LA]
   refine wpAnyH_take (i := 25) (v := ?_) rfl (by kernel_rfl) (by kernel_rfl) (by kernel_rfl) (fun _ _ _ h => h) (Or.inl ⟨by rfl, ?_⟩) hS ?_
   rotate_left
   ·
    rintro w' ⟨s1, s2, s3, ⟨s4, s5, s6, s7, s8⟩, s9, s10, s11, s12, s13⟩
    go_simp
    first | done | with_reducible rfl | rfl
   simp only [Act.put, LA]
   refine wpAnyH_take (i := 26) (v := ?_) rfl (by kernel_rfl) (by kernel_rfl) (by kernel_rfl) (fun _ _ _ h => h) (Or.inl ⟨by rfl, ?_⟩) hS ?_
   rotate_left
   ·
    rintro w' ⟨s1, s2, s3, ⟨s4, s5, s6, s7, s8⟩, s9, s10, s11, s12, s13⟩
    go_simp
    first | done | with_reducible rfl | rfl
   simp only [Act.put, LA]
   refine wpAnyH_take (i := 27) (v := ?_) rfl (by kernel_rfl) (by kernel_rfl) (by kernel_rfl) (fun _ _ _ h => h) (Or.inl ⟨by rfl, ?_⟩) hS ?_
   rotate_left
   ·
    rintro w' ⟨s1, s2, s3, ⟨s4, s5, s6, s7, s8⟩, s9, s10, s11, s12, s13⟩
    go_simp
    first | done | with_reducible rfl | rfl
   simp only [Act.put, LA]
   refine wpAnyH_take (i := 28) (v := ?_) rfl (by kernel_rfl) (by kernel_rfl) (by kernel_rfl) (fun _ _ _ h => h) (Or.inl ⟨by rfl, ?_⟩) hS ?_
   rotate_left
   ·
    rintro w' ⟨s1, s2, s3, ⟨s4, s5, s6, s7, s8⟩, s9, s10, s11, s12, s13⟩
    go_simp
    first | done | with_reducible rfl | rfl
   simp only [Act.put, LA]
   refine wpAnyH_take (i := 29) (v := ?_) rfl (by kernel_rfl) (by kernel_rfl) (by kernel_rfl) (fun _ _ _ h => h) (Or.inl ⟨by rfl, ?_⟩) hS ?_
   rotate_left
   ·
    rintro w' ⟨s1, s2, s3, ⟨s4, s5, s6, s7, s8⟩, s9, s10, s11, s12, s13⟩
    go_simp
    first | done | with_reducible rfl | rfl
   simp only [Act.put, LA]
   refine wpAnyH_ready (rs := [24]) (by kernel_rfl) (by simp) (AllReadyH.cons rfl (fun K hK => ?_) AllReadyH.nil)
   go_simp
   refine (get_bw A8 c8 pn p v.bx v.by_ _ _ _ (T2.out.getN (A := A8) (c := c8) (l := p) (by simp)) HPN.out.symm HSO.out.1.1 (cv_r (T2.out.getU (g := gd) (u := v) (by simp)) K3.out K4.out).1 (cv_r (T2.out.getU (g := gd) (u := v) (by simp)) K3.out K4.out).2 (by show v.xs.length ≤ _; omega) (by show v.ys.length ≤ _; omega)).mono ?_
   rintro e W3 ⟨rfl, b⟩
   dsimp only
   rw [HSO.out.get, if_neg HXY.out]
   have T3 := Lib.hid (T2.out.step b)
   clear b
   have hS := (And.intro (T3.out.getB (g := gb) (v := .slice Ab qn cb) (by simp)) (And.intro (T3.out.getB (g := g8) (v := .slice A8 pn c8) (by simp)) (And.intro (T3.out.getB (g := g5) (v := .slice A5 qn c5) (by simp)) (And.intro (T3.out.getC (g := gc) (u := u) (by simp)) (T3.out.getC (g := gd) (u := v) (by simp))))))
   refine hK.out _ _ hS (fun _ => ?_)
   clear hK K
   refine wpAnyH_ready (rs := [30]) (by kernel_rfl) (by simp) (AllReadyH.cons rfl (fun K hK => ?_) AllReadyH.nil)
   go_simp
   refine (get_bw A5 c5 qn q v.bx v.by_ _ _ _ (T3.out.getN (A := A5) (c := c5) (l := q) (by simp)) HQN.out HQS.out.1 (cv_r (T3.out.getU (g := gd) (u := v) (by simp)) K3.out K4.out).1 (cv_r (T3.out.getU (g := gd) (u := v) (by simp)) K3.out K4.out).2 (by show v.xs.length ≤ _; omega) (by show v.ys.length ≤ _; omega)).mono ?_
   rintro e W4 ⟨rfl, b⟩
   dsimp only
   have T4 := Lib.hid (T3.out.step b)
   clear b
   have hS := (And.intro (T4.out.getB (g := gb) (v := .slice Ab qn cb) (by simp)) (And.intro (T4.out.getB (g := g8) (v := .slice A8 pn c8) (by simp)) (And.intro (T4.out.getB (g := g5) (v := .slice A5 qn c5) (by simp)) (And.intro (T4.out.getC (g := gc) (u := u) (by simp)) (T4.out.getC (g := gd) (u := v) (by simp))))))
   refine hK.out _ _ hS (fun _ => ?_)
   clear hK K
   refine wpAnyH_take (i := 31) (v := ?_) rfl (by kernel_rfl) (by kernel_rfl) (by kernel_rfl) (fun _ _ _ h => h) (Or.inl ⟨by rfl, ?_⟩) hS ?_
   rotate_left
   ·
    rintro w' ⟨s1, s2, s3, ⟨s4, s5, s6, s7, s8⟩, s9, s10, s11, s12, s13⟩
    go_simp
    first | done | with_reducible rfl | rfl
   simp only [Act.put, LA]
   refine wpAnyH_take (i := 32) (v := ?_) rfl (by kernel_rfl) (by kernel_rfl) (by kernel_rfl) (fun _ _ _ h => h) (Or.inl ⟨by rfl, ?_⟩) hS ?_
   rotate_left
   ·
    rintro w' ⟨s1, s2, s3, ⟨s4, s5, s6, s7, s8⟩, s9, s10, s11, s12, s13⟩
    go_simp
    first | done | with_reducible rfl | rfl
   simp only [Act.put, LA]
   refine wpAnyH_take (i := 33) (v := ?_) rfl (by kernel_rfl) (by kernel_rfl) (by kernel_rfl) (fun _ _ _ h => h) (Or.inl ⟨by rfl, ?_⟩) hS ?_
   rotate_left
   ·
    rintro w' ⟨s1, s2, s3, ⟨s4, s5, s6, s7, s8⟩, s9, s10, s11, s12, s13⟩
    go_simp
    first | done | with_reducible rfl | rfl
   simp only [Act.put, LA]
   refine wpAnyH_done (by kernel_rfl) ?_ _
   refine NoPanic.normal ?_
   go_wp2_with fail
   go_ret
   exact ⟨rfl, T4.out.b⟩
theorem lone_law (A : Option Addr) (c : Nat) (l : List Cv) (u v : Cv) (w : World) (h : Cs w A c l) (hu : CvU w u) (hv : CvU w v) :
  Calls Try.prog 5 #[.slice A l.length c, cvv u, cvv v] w fun e w' => e = .returned (.bool true) ∧ Below w.heap.size w w' := by
 cases hm : mayB l 30 with
 | false => exact lone_may A c _ l u v w h rfl hu hv hm
 | true =>
  cases hg : greatB [u, v] 2 with
  | true => exact lone_great A c _ l u v w h rfl hu hv hm hg
  | false =>
   obtain ⟨h1, h2⟩ := (great_lens hg).2 u (by simp)
   obtain ⟨h3, h4⟩ := (great_lens hg).2 v (by simp)
   cases r1 : rightI u.sx u.xs with
   | false => exact lone_bad1 A c _ l u v w h rfl hu hv hm hg h1 h2 h3 h4 r1
   | true =>
    cases r2 : rightI u.sy u.ys with
    | false => exact lone_bad2 A c _ l u v w h rfl hu hv hm hg h1 h2 h3 h4 r1 r2
    | true =>
     cases r3 : rightI v.sx v.xs with
     | false => exact lone_bad3 A c _ l u v w h rfl hu hv hm hg h1 h2 h3 h4 r1 r2 r3
     | true =>
      cases r4 : rightI v.sy v.ys with
      | false => exact lone_bad4 A c _ l u v w h rfl hu hv hm hg h1 h2 h3 h4 r1 r2 r3 r4
      | true =>
       by_cases hf : (u.st : Int) ≠ 0 ∧ ¬ (inR (ival u.sx u.xs) ∧ inR (ival u.sy u.ys))
       ·
        exact lone_far A c _ l u v w h rfl hu hv hm hg h1 h2 h3 h4 r1 r2 r3 r4 hf
       ·
        exact lone_near A c _ l u v w h rfl hu hv hm hg h1 h2 h3 h4 r1 r2 r3 r4 (fun h0 => Classical.byContradiction fun h9 => hf ⟨h0, h9⟩)
end Go.Proofs.Ytdmkiioimmmlbaa
