/-
  look: LookDeep, the walk.
-/
import Derived.Test.YtdmkiioimmmlbaaGLkAl
import Derived.Test.YtdmkiioimmmlbaaGNcRS
import Derived.Test.YtdmkiioimmmlbaaGLkGu
import Derived.Test.YtdmkiioimmmlbaaGNdsW
import Derived.Test.YtdmkiioimmmlbaaLay0

namespace Go.Proofs.Ytdmkiioimmmlbaa
set_option maxRecDepth 100000
set_option linter.unusedVariables false
set_option linter.unusedSimpArgs false
open Go.RowKit Num Nds
structure Ac (w W : World) (L : List (Option Addr × Nat × List Nd)) (M : List (Nat × Value)) (C : List (Nat × Cv)) : Prop where
 al : Al w W L M
 cb : ∀ t ∈ C, CvAt W t.1 0 t.2 ∧ CvU W t.2
theorem Ac.step {w W W' : World} {L : List (Option Addr × Nat × List Nd)} {M : List (Nat × Value)} {C : List (Nat × Cv)} (s : Ac w W L M C) (b : Below W.heap.size W W') : Ac w W' L M C :=
 ⟨s.al.step b, fun t ht => ⟨(s.cb t ht).1.below (b.block _ (World.block_lt_of_cell? _ _ (s.cb t ht).1.1)), (s.cb t ht).2.below b⟩⟩
theorem Ac.alloc {w W : World} {L : List (Option Addr × Nat × List Nd)} {M : List (Nat × Value)} {C : List (Nat × Cv)} (s : Ac w W L M C) (o : Obj) : Ac w (W.alloc o) L M C := s.step ((Below.refl _ W).alloc (Nat.le_refl _) o)
theorem Ac.addN {w W : World} {L : List (Option Addr × Nat × List Nd)} {M : List (Nat × Value)} {C : List (Nat × Cv)} (s : Ac w W L M C) {A : Option Addr} {c : Nat} {l : List Nd} (h : Ns W A c l) : Ac w W ((A, c, l) :: L) M C := ⟨s.al.addN h, s.cb⟩
theorem Ac.addB {w W : World} {L : List (Option Addr × Nat × List Nd)} {M : List (Nat × Value)} {C : List (Nat × Cv)} (s : Ac w W L M C) (v : Value) : Ac w (W.alloc (.cells #[v] 31)) L ((W.heap.size, v) :: M) C := ⟨s.al.addB v, (s.alloc _).cb⟩
theorem Ac.getN {w W : World} {L : List (Option Addr × Nat × List Nd)} {M : List (Nat × Value)} {C : List (Nat × Cv)} (s : Ac w W L M C) {A : Option Addr} {c : Nat} {l : List Nd} (h : (A, c, l) ∈ L) : Ns W A c l := s.al.getN h
theorem Ac.getB {w W : World} {L : List (Option Addr × Nat × List Nd)} {M : List (Nat × Value)} {C : List (Nat × Cv)} (s : Ac w W L M C) {g : Nat} {v : Value} (h : (g, v) ∈ M) : W.cell? ⟨g, 0, none⟩ = some v := s.al.getB h
theorem Ac.getC {w W : World} {L : List (Option Addr × Nat × List Nd)} {M : List (Nat × Value)} {C : List (Nat × Cv)} (s : Ac w W L M C) {g : Nat} {u : Cv} (h : (g, u) ∈ C) : W.cell? ⟨g, 0, none⟩ = some (.bool u.sx) ∧ W.cell? ⟨g, 1, none⟩ = some (.slice u.ax u.xs.length u.cx) ∧ W.cell? ⟨g, 2, none⟩ = some (.bool u.sy) ∧ W.cell? ⟨g, 3, none⟩ = some (.slice u.ay u.ys.length u.cy) ∧ W.cell? ⟨g, 4, none⟩ = some (.int .u8 u.st) := (s.cb _ h).1
theorem Ac.getU {w W : World} {L : List (Option Addr × Nat × List Nd)} {M : List (Nat × Value)} {C : List (Nat × Cv)} (s : Ac w W L M C) {g : Nat} {u : Cv} (h : (g, u) ∈ C) : CvU W u := (s.cb _ h).2
theorem Ac.b {w W : World} {L : List (Option Addr × Nat × List Nd)} {M : List (Nat × Value)} {C : List (Nat × Cv)} (s : Ac w W L M C) : Below w.heap.size w W := s.al.sn.1
theorem Ac.one (w : World) (u : Cv) (h : CvU w u) : Ac w (w.alloc (.cells #[.bool u.sx, .slice u.ax u.xs.length u.cx, .bool u.sy, .slice u.ay u.ys.length u.cy, .int .u8 u.st] 27)) [] [] [(w.heap.size, u)] :=
 ⟨(Al.start w).alloc _, fun t ht => by
  rw [List.mem_singleton.1 ht]
  exact ⟨CvAt.new w u _, h.below ((Below.refl _ w).alloc (Nat.le_refl _) _)⟩⟩
theorem cs_one {w : World} {g : Nat} (u : Cv) (h : w.heap[g]? = some (.cells #[.bool u.sx, .slice u.ax u.xs.length u.cx, .bool u.sy, .slice u.ay u.ys.length u.cy, .int .u8 u.st] 27)) (hu : CvU w u) : Cs w (some ⟨g, 0, none⟩) 1 [u] := by
 refine ⟨fun x hx => ?_, Nat.le_refl _, by simp [maxLen], fun _ => ⟨g, 0, rfl, (Array.getElem?_eq_some_iff.1 h).1, fun i hi => ?_⟩⟩
 ·
  rw [List.mem_singleton.1 hx]
  exact hu
 ·
  match i, hi with
  | 0, _ => refine ⟨?_, ?_, ?_, ?_, ?_⟩ <;> (rw [cell_of_row _ _ _ _ _ _ h]; rfl)
theorem cells4 {W : World} {g : Nat} {u : Cv} (h : W.cell? ⟨g, 0, none⟩ = some (.bool u.sx) ∧ W.cell? ⟨g, 1, none⟩ = some (.slice u.ax u.xs.length u.cx) ∧ W.cell? ⟨g, 2, none⟩ = some (.bool u.sy) ∧ W.cell? ⟨g, 3, none⟩ = some (.slice u.ay u.ys.length u.cy) ∧ W.cell? ⟨g, 4, none⟩ = some (.int .u8 u.st)) :
  W.cell? ⟨g, 0, none⟩ = some (.bool u.sx) ∧ W.cell? ⟨g, 1, none⟩ = some (.slice u.ax u.xs.length u.cx) ∧ W.cell? ⟨g, 2, none⟩ = some (.bool u.sy) ∧ W.cell? ⟨g, 3, none⟩ = some (.slice u.ay u.ys.length u.cy) := ⟨h.1, h.2.1, h.2.2.1, h.2.2.2.1⟩
abbrev Cv.bx (u : Cv) : Bw := ⟨u.sx, u.ax, u.cx, u.xs⟩
abbrev Cv.by_ (u : Cv) : Bw := ⟨u.sy, u.ay, u.cy, u.ys⟩
theorem cv_r {W : World} {u : Cv} (h : CvU W u) (kx : CanonI u.sx u.xs) (ky : CanonI u.sy u.ys) : u.bx.R W (ival u.sx u.xs) ∧ u.by_.R W (ival u.sy u.ys) := ⟨⟨h.1, kx, rfl⟩, ⟨h.2.1, ky, rfl⟩⟩
theorem right_cn {s : Bool} {xs : List Nat} (h : rightI s xs = true) : CanonI s xs := right_canonC h
theorem eq_of_setE {q a b : List Nd} {X Y s er fr : Int} (h : SetE q X Y s er a) (k : SetE q X Y s fr b) : a = b ∧ er = fr := h.one k
set_option maxRecDepth 100000 in
set_option maxHeartbeats 6400000 in
theorem ldeep_long
  (A : Option Addr) (c n : Nat) (l : List Nd) (k : Int) (u : Cv) (w : World) (h : Ns w A c l) (hn : l.length = n) (hA : A = none → c = 0) (hu : CvU w u) (h4 : 40 < n) :
  Calls Try.prog 4 #[.slice A n c, .int .i64 k, cvv u] w fun e w' => e = .returned (.bool true) ∧ Below w.heap.size w w' := by
 have hcap := h.cap
 rw [hn] at hcap
 have hv1 := hu.1.cap
 have hv2 := hu.2.1.cap
 have hst := hu.2.2
 have HN := Lib.hid h
 have HL := Lib.hid hn
 have HA := Lib.hid hA
 have HC := Lib.hid (Ac.one w u hu)
 have q0 : True := trivial
 have t1 : decide ((n : Int) > 40) = true := decide_eq_true (by omega)
 clear h hn hA hu
 go_enter Try.func4, Try.ntmps4
 go_wp2_with (first
   | (have _t := q0; go_at_call 10; clear _t; go_loud (refine (alive8_any _).mono ?_; rintro e w1 ⟨rfl, b1⟩; have H1 := Lib.hid (HC.out.step b1); have hcc := H1.out.getC (g := w.heap.size) (u := u) (by simp); obtain ⟨c0, c1, c2, c3, c4⟩ := hcc; clear b1; have q1 := q0; clear q0)))
 go_ret
 exact ⟨rfl, H1.out.b⟩
set_option maxRecDepth 100000 in
set_option maxHeartbeats 6400000 in
theorem ldeep_great
  (A : Option Addr) (c n : Nat) (l : List Nd) (k : Int) (u : Cv) (w : World) (h : Ns w A c l) (hn : l.length = n) (hA : A = none → c = 0) (hu : CvU w u) (h4 : n ≤ 40) (hg : greatB [u] 1 = true) :
  Calls Try.prog 4 #[.slice A n c, .int .i64 k, cvv u] w fun e w' => e = .returned (.bool true) ∧ Below w.heap.size w w' := by
 have hcap := h.cap
 rw [hn] at hcap
 have hv1 := hu.1.cap
 have hv2 := hu.2.1.cap
 have hst := hu.2.2
 have HN := Lib.hid h
 have HL := Lib.hid hn
 have HA := Lib.hid hA
 have HC := Lib.hid (Ac.one w u hu)
 have q0 : True := trivial
 have t1 : decide ((n : Int) > 40) = false := decide_eq_false (by omega)
 have HG := Lib.hid hg
 clear h hn hA hu hg
 go_enter Try.func4, Try.ntmps4
 go_wp2_with (first
   | (have _t := q0; go_at_call 10; clear _t; go_loud (refine (alive8_any _).mono ?_; rintro e w1 ⟨rfl, b1⟩; have H1 := Lib.hid (HC.out.step b1); have hcc := H1.out.getC (g := w.heap.size) (u := u) (by simp); obtain ⟨c0, c1, c2, c3, c4⟩ := hcc; clear b1; have q1 := q0; clear q0))
   | (have _t := q1; go_at_call 12; clear _t; go_loud (refine (cgreat_any _ 1 1 1 [u] _ (cs_one u (heap_alloc_new w1 _) ((H1.out.getU (g := w.heap.size) (u := u) (by simp)).below ((Below.refl _ w1).alloc (Nat.le_refl _) _))) rfl).mono ?_; rintro e w2 ⟨rfl, m2, hw2⟩; rw [HG.out]; have b2 := (show Below w1.heap.size w1 w2 by rw [hw2]; exact below_drewN' ((Below.refl _ w1).alloc (Nat.le_refl _) _) m2); have H2 := Lib.hid (H1.out.step b2); obtain ⟨c0, c1, c2, c3, c4⟩ := H2.out.getC (g := w.heap.size) (u := u) (by simp); clear hw2 b2; have q2 := q1; clear q1)))
 go_ret
 exact ⟨rfl, H2.out.b⟩
set_option maxRecDepth 100000 in
set_option maxHeartbeats 6400000 in
theorem ldeep_badx
  (A : Option Addr) (c n : Nat) (l : List Nd) (k : Int) (u : Cv) (w : World) (h : Ns w A c l) (hn : l.length = n) (hA : A = none → c = 0) (hu : CvU w u) (h4 : n ≤ 40) (hg : greatB [u] 1 = false) (h1 : u.xs.length ≤ 50) (hx : rightI u.sx u.xs = false) :
  Calls Try.prog 4 #[.slice A n c, .int .i64 k, cvv u] w fun e w' => e = .returned (.bool true) ∧ Below w.heap.size w w' := by
 have hcap := h.cap
 rw [hn] at hcap
 have hv1 := hu.1.cap
 have hv2 := hu.2.1.cap
 have hst := hu.2.2
 have HN := Lib.hid h
 have HL := Lib.hid hn
 have HA := Lib.hid hA
 have HC := Lib.hid (Ac.one w u hu)
 have q0 : True := trivial
 have t1 : decide ((n : Int) > 40) = false := decide_eq_false (by omega)
 have HG := Lib.hid hg
 have HRX := Lib.hid hx
 clear h hn hA hu hg hx
 go_enter Try.func4, Try.ntmps4
 go_wp2_with (first
   | (have _t := q0; go_at_call 10; clear _t; go_loud (refine (alive8_any _).mono ?_; rintro e w1 ⟨rfl, b1⟩; have H1 := Lib.hid (HC.out.step b1); have hcc := H1.out.getC (g := w.heap.size) (u := u) (by simp); obtain ⟨c0, c1, c2, c3, c4⟩ := hcc; clear b1; have q1 := q0; clear q0))
   | (have _t := q1; go_at_call 12; clear _t; go_loud (refine (cgreat_any _ 1 1 1 [u] _ (cs_one u (heap_alloc_new w1 _) ((H1.out.getU (g := w.heap.size) (u := u) (by simp)).below ((Below.refl _ w1).alloc (Nat.le_refl _) _))) rfl).mono ?_; rintro e w2 ⟨rfl, m2, hw2⟩; rw [HG.out]; have b2 := (show Below w1.heap.size w1 w2 by rw [hw2]; exact below_drewN' ((Below.refl _ w1).alloc (Nat.le_refl _) _) m2); have H2 := Lib.hid (H1.out.step b2); obtain ⟨c0, c1, c2, c3, c4⟩ := H2.out.getC (g := w.heap.size) (u := u) (by simp); clear hw2 b2; have q2 := q1; clear q1))
   | (have _t := q2; go_at_call 13; clear _t; go_loud (refine (rbright_any u.sx u.ax u.cx u.xs _ (H2.out.getU (g := w.heap.size) (u := u) (by simp)).1 (by omega)).mono ?_; rintro e w3 ⟨rfl, b3⟩; rw [HRX.out]; have H3 := Lib.hid (H2.out.step b3); obtain ⟨c0, c1, c2, c3, c4⟩ := H3.out.getC (g := w.heap.size) (u := u) (by simp); clear b3; have q3 := q2; clear q2)))
 go_ret
 exact ⟨rfl, H3.out.b⟩
set_option maxRecDepth 100000 in
set_option maxHeartbeats 6400000 in
theorem ldeep_bady
  (A : Option Addr) (c n : Nat) (l : List Nd) (k : Int) (u : Cv) (w : World) (h : Ns w A c l) (hn : l.length = n) (hA : A = none → c = 0) (hu : CvU w u) (h4 : n ≤ 40) (hg : greatB [u] 1 = false) (h1 : u.xs.length ≤ 50) (h2 : u.ys.length ≤ 50) (hx : rightI u.sx u.xs = true) (hy : rightI u.sy u.ys = false) :
  Calls Try.prog 4 #[.slice A n c, .int .i64 k, cvv u] w fun e w' => e = .returned (.bool true) ∧ Below w.heap.size w w' := by
 have hcap := h.cap
 rw [hn] at hcap
 have hv1 := hu.1.cap
 have hv2 := hu.2.1.cap
 have hst := hu.2.2
 have HN := Lib.hid h
 have HL := Lib.hid hn
 have HA := Lib.hid hA
 have HC := Lib.hid (Ac.one w u hu)
 have q0 : True := trivial
 have t1 : decide ((n : Int) > 40) = false := decide_eq_false (by omega)
 have HG := Lib.hid hg
 have HRX := Lib.hid hx
 have HRY := Lib.hid hy
 clear h hn hA hu hg hx hy
 go_enter Try.func4, Try.ntmps4
 go_wp2_with (first
   | (have _t := q0; go_at_call 10; clear _t; go_loud (refine (alive8_any _).mono ?_; rintro e w1 ⟨rfl, b1⟩; have H1 := Lib.hid (HC.out.step b1); have hcc := H1.out.getC (g := w.heap.size) (u := u) (by simp); obtain ⟨c0, c1, c2, c3, c4⟩ := hcc; clear b1; have q1 := q0; clear q0))
   | (have _t := q1; go_at_call 12; clear _t; go_loud (refine (cgreat_any _ 1 1 1 [u] _ (cs_one u (heap_alloc_new w1 _) ((H1.out.getU (g := w.heap.size) (u := u) (by simp)).below ((Below.refl _ w1).alloc (Nat.le_refl _) _))) rfl).mono ?_; rintro e w2 ⟨rfl, m2, hw2⟩; rw [HG.out]; have b2 := (show Below w1.heap.size w1 w2 by rw [hw2]; exact below_drewN' ((Below.refl _ w1).alloc (Nat.le_refl _) _) m2); have H2 := Lib.hid (H1.out.step b2); obtain ⟨c0, c1, c2, c3, c4⟩ := H2.out.getC (g := w.heap.size) (u := u) (by simp); clear hw2 b2; have q2 := q1; clear q1))
   | (have _t := q2; go_at_call 13; clear _t; go_loud (refine (rbright_any u.sx u.ax u.cx u.xs _ (H2.out.getU (g := w.heap.size) (u := u) (by simp)).1 (by omega)).mono ?_; rintro e w3 ⟨rfl, b3⟩; rw [HRX.out]; have H3 := Lib.hid (H2.out.step b3); obtain ⟨c0, c1, c2, c3, c4⟩ := H3.out.getC (g := w.heap.size) (u := u) (by simp); clear b3; have q3 := q2; clear q2))
   | (have _t := q3; go_at_call 13; clear _t; go_loud (refine (rbright_any u.sy u.ay u.cy u.ys _ (H3.out.getU (g := w.heap.size) (u := u) (by simp)).2.1 (by omega)).mono ?_; rintro e w4 ⟨rfl, b4⟩; rw [HRY.out]; have H4 := Lib.hid (H3.out.step b4); obtain ⟨c0, c1, c2, c3, c4⟩ := H4.out.getC (g := w.heap.size) (u := u) (by simp); clear b4; have q4 := q3; clear q3)))
 go_ret
 exact ⟨rfl, H4.out.b⟩
set_option maxRecDepth 100000 in
set_option maxHeartbeats 6400000 in
theorem ldeep_no
  (A : Option Addr) (c n : Nat) (l : List Nd) (k : Int) (u : Cv) (w : World) (h : Ns w A c l) (hn : l.length = n) (hA : A = none → c = 0) (hu : CvU w u) (h4 : n ≤ 40) (hg : greatB [u] 1 = false) (h1 : u.xs.length ≤ 50) (h2 : u.ys.length ≤ 50) (hx : rightI u.sx u.xs = true) (hy : rightI u.sy u.ys = true) (ho : okB l k = false) :
  Calls Try.prog 4 #[.slice A n c, .int .i64 k, cvv u] w fun e w' => e = .returned (.bool true) ∧ Below w.heap.size w w' := by
 have hcap := h.cap
 rw [hn] at hcap
 have hv1 := hu.1.cap
 have hv2 := hu.2.1.cap
 have hst := hu.2.2
 have HN := Lib.hid h
 have HL := Lib.hid hn
 have HA := Lib.hid hA
 have HC := Lib.hid (Ac.one w u hu)
 have q0 : True := trivial
 have t1 : decide ((n : Int) > 40) = false := decide_eq_false (by omega)
 have HG := Lib.hid hg
 have HRX := Lib.hid hx
 have HRY := Lib.hid hy
 obtain ⟨q, hq⟩ : ∃ q, q = ofQ l k := ⟨_, rfl⟩
 obtain ⟨qn, hqn⟩ : ∃ qn, qn = q.length := ⟨_, rfl⟩
 have HQ := Lib.hid hq
 have HQN := Lib.hid hqn
 have HE := Lib.hid (show (1 : Int) = ofE l k from (ofQ_no ho).2.symm)
 clear h hn hA hu hg hx hy hq hqn ho
 go_enter Try.func4, Try.ntmps4
 go_wp2_with (first
   | (have _t := q0; go_at_call 10; clear _t; go_loud (refine (alive8_any _).mono ?_; rintro e w1 ⟨rfl, b1⟩; have H1 := Lib.hid (HC.out.step b1); have hcc := H1.out.getC (g := w.heap.size) (u := u) (by simp); obtain ⟨c0, c1, c2, c3, c4⟩ := hcc; clear b1; have q1 := q0; clear q0))
   | (have _t := q1; go_at_call 12; clear _t; go_loud (refine (cgreat_any _ 1 1 1 [u] _ (cs_one u (heap_alloc_new w1 _) ((H1.out.getU (g := w.heap.size) (u := u) (by simp)).below ((Below.refl _ w1).alloc (Nat.le_refl _) _))) rfl).mono ?_; rintro e w2 ⟨rfl, m2, hw2⟩; rw [HG.out]; have b2 := (show Below w1.heap.size w1 w2 by rw [hw2]; exact below_drewN' ((Below.refl _ w1).alloc (Nat.le_refl _) _) m2); have H2 := Lib.hid (H1.out.step b2); obtain ⟨c0, c1, c2, c3, c4⟩ := H2.out.getC (g := w.heap.size) (u := u) (by simp); clear hw2 b2; have q2 := q1; clear q1))
   | (have _t := q2; go_at_call 13; clear _t; go_loud (refine (rbright_any u.sx u.ax u.cx u.xs _ (H2.out.getU (g := w.heap.size) (u := u) (by simp)).1 (by omega)).mono ?_; rintro e w3 ⟨rfl, b3⟩; rw [HRX.out]; have H3 := Lib.hid (H2.out.step b3); obtain ⟨c0, c1, c2, c3, c4⟩ := H3.out.getC (g := w.heap.size) (u := u) (by simp); clear b3; have q3 := q2; clear q2))
   | (have _t := q3; go_at_call 13; clear _t; go_loud (refine (rbright_any u.sy u.ay u.cy u.ys _ (H3.out.getU (g := w.heap.size) (u := u) (by simp)).2.1 (by omega)).mono ?_; rintro e w4 ⟨rfl, b4⟩; rw [HRY.out]; have H4 := Lib.hid (H3.out.step b4); obtain ⟨c0, c1, c2, c3, c4⟩ := H4.out.getC (g := w.heap.size) (u := u) (by simp); clear b4; have q4 := q3; clear q3))
   | (have _t := q4; go_at_call 21; clear _t; go_loud (refine (rof_any A c n l k _ (HN.out.below H4.out.b) HL.out (by omega) HA.out).mono ?_; rintro e w5 ⟨A5, c5, rfl, n5, a5, b5⟩; rw [← HQ.out, ← HE.out, ← HQN.out]; rw [← HQ.out] at n5; have hc5 := n5.cap; rw [← HQN.out] at hc5; have H5 := Lib.hid (((H4.out.step b5).addN n5).addB (.slice A5 qn c5)); have HA5 := Lib.hid a5; obtain ⟨c0, c1, c2, c3, c4⟩ := H5.out.getC (g := w.heap.size) (u := u) (by simp); clear n5 a5 b5; have q5 := q4; clear q4)))
 go_ret
 exact ⟨rfl, H5.out.b⟩
set_option maxRecDepth 100000 in
set_option maxHeartbeats 6400000 in
theorem ldeep_yes
  (A : Option Addr) (c n : Nat) (l : List Nd) (k : Int) (u : Cv) (w : World) (h : Ns w A c l) (hn : l.length = n) (hA : A = none → c = 0) (hu : CvU w u) (h4 : n ≤ 40) (hg : greatB [u] 1 = false) (h1 : u.xs.length ≤ 50) (h2 : u.ys.length ≤ 50) (hx : rightI u.sx u.xs = true) (hy : rightI u.sy u.ys = true) (ho : okB l k = true) :
  Calls Try.prog 4 #[.slice A n c, .int .i64 k, cvv u] w fun e w' => e = .returned (.bool true) ∧ Below w.heap.size w w' := by
 have hcap := h.cap
 rw [hn] at hcap
 have hv1 := hu.1.cap
 have hv2 := hu.2.1.cap
 have hst := hu.2.2
 have HN := Lib.hid h
 have HL := Lib.hid hn
 have HA := Lib.hid hA
 have HC := Lib.hid (Ac.one w u hu)
 have q0 : True := trivial
 have t1 : decide ((n : Int) > 40) = false := decide_eq_false (by omega)
 have HG := Lib.hid hg
 have HRX := Lib.hid hx
 have HRY := Lib.hid hy
 obtain ⟨q, hq⟩ : ∃ q, q = ofQ l k := ⟨_, rfl⟩
 obtain ⟨qn, hqn⟩ : ∃ qn, qn = q.length := ⟨_, rfl⟩
 have HQ := Lib.hid hq
 have HQN := Lib.hid hqn
 have HE := Lib.hid (show (0 : Int) = ofE l k by unfold ofE; rw [if_pos ho])
 have hqs : QS q := by
  rw [hq]
  unfold okB at ho
  rw [Bool.and_eq_true, decide_eq_true_iff] at ho
  unfold ofQ okB
  rw [ho.1, decide_eq_true ho.2, if_pos (show (true && true) = true from rfl)]
  exact qs_of ho.1 (by omega)
 have hql : qn ≤ 2000 := by rw [hqn, hq]; have := ofQ_len l k; omega
 have HQS := Lib.hid hqs
 have KX := Lib.hid (right_cn hx)
 have KY := Lib.hid (right_cn hy)
 clear h hn hA hu hg hx hy hq hqn ho hqs
 go_enter Try.func4, Try.ntmps4
 go_wp2_with (first
   | (have _t := q0; go_at_call 10; clear _t; go_loud (refine (alive8_any _).mono ?_; rintro e w1 ⟨rfl, b1⟩; have H1 := Lib.hid (HC.out.step b1); have hcc := H1.out.getC (g := w.heap.size) (u := u) (by simp); obtain ⟨c0, c1, c2, c3, c4⟩ := hcc; clear b1; have q1 := q0; clear q0))
   | (have _t := q1; go_at_call 12; clear _t; go_loud (refine (cgreat_any _ 1 1 1 [u] _ (cs_one u (heap_alloc_new w1 _) ((H1.out.getU (g := w.heap.size) (u := u) (by simp)).below ((Below.refl _ w1).alloc (Nat.le_refl _) _))) rfl).mono ?_; rintro e w2 ⟨rfl, m2, hw2⟩; rw [HG.out]; have b2 := (show Below w1.heap.size w1 w2 by rw [hw2]; exact below_drewN' ((Below.refl _ w1).alloc (Nat.le_refl _) _) m2); have H2 := Lib.hid (H1.out.step b2); obtain ⟨c0, c1, c2, c3, c4⟩ := H2.out.getC (g := w.heap.size) (u := u) (by simp); clear hw2 b2; have q2 := q1; clear q1))
   | (have _t := q2; go_at_call 13; clear _t; go_loud (refine (rbright_any u.sx u.ax u.cx u.xs _ (H2.out.getU (g := w.heap.size) (u := u) (by simp)).1 (by omega)).mono ?_; rintro e w3 ⟨rfl, b3⟩; rw [HRX.out]; have H3 := Lib.hid (H2.out.step b3); obtain ⟨c0, c1, c2, c3, c4⟩ := H3.out.getC (g := w.heap.size) (u := u) (by simp); clear b3; have q3 := q2; clear q2))
   | (have _t := q3; go_at_call 13; clear _t; go_loud (refine (rbright_any u.sy u.ay u.cy u.ys _ (H3.out.getU (g := w.heap.size) (u := u) (by simp)).2.1 (by omega)).mono ?_; rintro e w4 ⟨rfl, b4⟩; rw [HRY.out]; have H4 := Lib.hid (H3.out.step b4); obtain ⟨c0, c1, c2, c3, c4⟩ := H4.out.getC (g := w.heap.size) (u := u) (by simp); clear b4; have q4 := q3; clear q3))
   | (have _t := q4; go_at_call 21; clear _t; go_loud (refine (rof_any A c n l k _ (HN.out.below H4.out.b) HL.out (by omega) HA.out).mono ?_; rintro e w5 ⟨A5, c5, rfl, n5, a5, b5⟩; rw [← HQ.out, ← HE.out, ← HQN.out]; rw [← HQ.out] at n5; have hc5 := n5.cap; rw [← HQN.out] at hc5; have H5 := Lib.hid (((H4.out.step b5).addN n5).addB (.slice A5 qn c5)); have HA5 := Lib.hid a5; obtain ⟨c0, c1, c2, c3, c4⟩ := H5.out.getC (g := w.heap.size) (u := u) (by simp); clear n5 a5 b5; have q5 := q4; clear q4))
   | (have _t := q5; go_at_call 14; clear _t; go_loud (refine (set_bw A5 c5 qn q u.bx u.by_ _ _ u.st _ (H5.out.getN (A := A5) (c := c5) (l := q) (by simp)) HQN.out.symm (by omega) HA5.out HQS.out (cv_r (H5.out.getU (g := w.heap.size) (u := u) (by simp)) KX.out KY.out).1 (cv_r (H5.out.getU (g := w.heap.size) (u := u) (by simp)) KX.out KY.out).2 (by show u.xs.length ≤ _; omega) (by show u.ys.length ≤ _; omega) hst).mono ?_; rintro e w6 ⟨A6, c6, p, er, rfl, n6, a6, b6, l6, s6⟩; obtain ⟨pn, hpn⟩ : ∃ pn, pn = p.length := ⟨_, rfl⟩; rw [← hpn]; have hc6 := n6.cap; rw [← hpn] at hc6 l6; have H6 := Lib.hid (((H5.out.step b6).addN n6).addB (.slice A6 pn c6)); have HA6 := Lib.hid a6; have HS6 := Lib.hid s6; have HPN := Lib.hid hpn; have f7 := H6.out.getB (g := w5.heap.size) (v := .slice A5 qn c5) (by simp); obtain ⟨c0, c1, c2, c3, c4⟩ := H6.out.getC (g := w.heap.size) (u := u) (by simp); clear n6 a6 b6 s6 hpn; have q6 := q5; clear q5))
   | (have _t := q6; go_at_call 15; clear _t; go_loud (refine (rset_bw A5 c5 qn q u.bx u.by_ _ _ u.st _ (H6.out.getN (A := A5) (c := c5) (l := q) (by simp)) HQN.out.symm (by omega) HA5.out HQS.out (cv_r (H6.out.getU (g := w.heap.size) (u := u) (by simp)) KX.out KY.out).1 (cv_r (H6.out.getU (g := w.heap.size) (u := u) (by simp)) KX.out KY.out).2 (by show u.xs.length ≤ _; omega) (by show u.ys.length ≤ _; omega) hst).mono ?_; rintro e w7 ⟨A7, c7, p_, er_, rfl, n7, a7, b7, l7, s7⟩; obtain ⟨ea, eb⟩ := eq_of_setE HS6.out s7; subst ea; subst eb; rw [← HPN.out]; have hc7 := n7.cap; rw [← HPN.out] at hc7; have H7 := Lib.hid (((H6.out.step b7).addN n7).addB (.slice A7 pn c7)); clear n7 a7 b7 s7 l7; have q7 := q6; clear q6)))
 obtain ⟨gc, hgc⟩ : ∃ g, g = w.heap.size := ⟨_, rfl⟩
 obtain ⟨g5, hg5⟩ : ∃ g, g = w5.heap.size := ⟨_, rfl⟩
 obtain ⟨g6, hg6⟩ : ∃ g, g = w6.heap.size := ⟨_, rfl⟩
 obtain ⟨g7, hg7⟩ : ∃ g, g = w7.heap.size := ⟨_, rfl⟩
 obtain ⟨W0, hW0⟩ : ∃ W0 : World, W0 = (w7.alloc (.cells #[.slice A7 pn c7] 31)).drew := ⟨_, rfl⟩
 have T0 := Lib.hid (H7.out.step (Below.drew' (Below.refl _ (w7.alloc (.cells #[.slice A7 pn c7] 31)))))
 rw [← hgc, ← hg5, ← hg6, ← hg7, ← hW0] at T0
 refine wp_region_noPanic ?_
 refine wp_region_held (S := fun w' => w'.cell? ⟨g5, 0, none⟩ = some (.slice A5 qn c5) ∧ w'.cell? ⟨g6, 0, none⟩ = some (.slice A6 pn c6) ∧ w'.cell? ⟨g7, 0, none⟩ = some (.slice A7 pn c7) ∧ w'.cell? ⟨gc, 0, none⟩ = some (.bool u.sx) ∧ w'.cell? ⟨gc, 1, none⟩ = some (.slice u.ax u.xs.length u.cx) ∧ w'.cell? ⟨gc, 2, none⟩ = some (.bool u.sy) ∧ w'.cell? ⟨gc, 3, none⟩ = some (.slice u.ay u.ys.length u.cy)) (by kernel_rfl) ?_
 change wpAnyH _ _ _ _ _ _ _ _ (w7.alloc (.cells #[.slice A7 pn c7] 31)).drew
 rw [← hW0, ← hgc, ← hg5, ← hg6, ← hg7]
 clear hW0 hgc hg5 hg6 hg7 c0 c1 c2 c3 c4 f7 H1 H2 H3 H4 H5 H6 H7 q7 HC
 have hS := (And.intro (T0.out.getB (g := g5) (v := .slice A5 qn c5) (by simp)) (And.intro (T0.out.getB (g := g6) (v := .slice A6 pn c6) (by simp)) (And.intro (T0.out.getB (g := g7) (v := .slice A7 pn c7) (by simp)) (cells4 (T0.out.getC (g := gc) (u := u) (by simp))))))
 refine wpAnyH_take (i := 0) (v := ?_) rfl (by kernel_rfl) (by kernel_rfl) (by kernel_rfl) (fun _ _ _ h => h) (Or.inl ⟨by rfl, ?_⟩) hS ?_
 rotate_left
 ·
  rintro w' ⟨s1, s2, s3, s4, s5, s6, s7⟩
  go_simp
  first | done | with_reducible rfl | rfl
 simp only [Act.put, LA]
 refine wpAnyH_take (i := 1) (v := ?_) rfl (by kernel_rfl) (by kernel_rfl) (by kernel_rfl) (fun _ _ _ h => h) (Or.inl ⟨by rfl, ?_⟩) hS ?_
 rotate_left
 ·
  rintro w' ⟨s1, s2, s3, s4, s5, s6, s7⟩
  go_simp
  first | done | with_reducible rfl | rfl
 simp only [Act.put, LA]
 refine wpAnyH_take (i := 2) (v := ?_) rfl (by kernel_rfl) (by kernel_rfl) (by kernel_rfl) (fun _ _ _ h => h) (Or.inl ⟨by rfl, ?_⟩) hS ?_
 rotate_left
 ·
  rintro w' ⟨s1, s2, s3, s4, s5, s6, s7⟩
  go_simp
  first | done | with_reducible rfl | rfl
 simp only [Act.put, LA]
 refine wpAnyH_take (i := 3) (v := ?_) rfl (by kernel_rfl) (by kernel_rfl) (by kernel_rfl) (fun _ _ _ h => h) (Or.inl ⟨by rfl, ?_⟩) hS ?_
 rotate_left
 ·
  rintro w' ⟨s1, s2, s3, s4, s5, s6, s7⟩
  go_simp
  first | done | with_reducible rfl | rfl
 simp only [Act.put, LA]
 refine wpAnyH_take (i := 4) (v := ?_) rfl (by kernel_rfl) (by kernel_rfl) (by kernel_rfl) (fun _ _ _ h => h) (Or.inl ⟨by rfl, ?_⟩) hS ?_
 rotate_left
 ·
  rintro w' ⟨s1, s2, s3, s4, s5, s6, s7⟩
  go_simp
  first | done | with_reducible rfl | rfl
 simp only [Act.put, LA]
 refine wpAnyH_take (i := 6) (v := ?_) rfl (by kernel_rfl) (by kernel_rfl) (by kernel_rfl) (fun _ _ _ h => h) (Or.inl ⟨by rfl, ?_⟩) hS ?_
 rotate_left
 ·
  rintro w' ⟨s1, s2, s3, s4, s5, s6, s7⟩
  go_simp
  first | done | with_reducible rfl | rfl
 simp only [Act.put, LA]
 refine wpAnyH_take (i := 7) (v := ?_) rfl (by kernel_rfl) (by kernel_rfl) (by kernel_rfl) (fun _ _ _ h => h) (Or.inl ⟨by rfl, ?_⟩) hS ?_
 rotate_left
 ·
  rintro w' ⟨s1, s2, s3, s4, s5, s6, s7⟩
  go_simp
  first | done | with_reducible rfl | rfl
 simp only [Act.put, LA]
 refine wpAnyH_take (i := 8) (v := ?_) rfl (by kernel_rfl) (by kernel_rfl) (by kernel_rfl) (fun _ _ _ h => h) (Or.inl ⟨by rfl, ?_⟩) hS ?_
 rotate_left
 ·
  rintro w' ⟨s1, s2, s3, s4, s5, s6, s7⟩
  go_simp
  first | done | with_reducible rfl | rfl
 simp only [Act.put, LA]
 refine wpAnyH_take (i := 9) (v := ?_) rfl (by kernel_rfl) (by kernel_rfl) (by kernel_rfl) (fun _ _ _ h => h) (Or.inl ⟨by rfl, ?_⟩) hS ?_
 rotate_left
 ·
  rintro w' ⟨s1, s2, s3, s4, s5, s6, s7⟩
  go_simp
  first | done | with_reducible rfl | rfl
 simp only [Act.put, LA]
 refine wpAnyH_take (i := 10) (v := ?_) rfl (by kernel_rfl) (by kernel_rfl) (by kernel_rfl) (fun _ _ _ h => h) (Or.inl ⟨by rfl, ?_⟩) hS ?_
 rotate_left
 ·
  rintro w' ⟨s1, s2, s3, s4, s5, s6, s7⟩
  go_simp
  first | done | with_reducible rfl | rfl
 simp only [Act.put, LA]
 refine wpAnyH_ready (rs := [5]) (by kernel_rfl) (by simp) (AllReadyH.cons rfl (fun K hK => ?_) AllReadyH.nil)
 go_simp
 refine (get_bw A5 c5 qn q u.bx u.by_ _ _ _ (T0.out.getN (A := A5) (c := c5) (l := q) (by simp)) HQN.out.symm HQS.out.1 (cv_r (T0.out.getU (g := gc) (u := u) (by simp)) KX.out KY.out).1 (cv_r (T0.out.getU (g := gc) (u := u) (by simp)) KX.out KY.out).2 (by show u.xs.length ≤ _; omega) (by show u.ys.length ≤ _; omega)).mono ?_
 rintro e W1 ⟨rfl, b⟩
 dsimp only
 have T1 := Lib.hid (T0.out.step b)
 clear b
 have hS := (And.intro (T1.out.getB (g := g5) (v := .slice A5 qn c5) (by simp)) (And.intro (T1.out.getB (g := g6) (v := .slice A6 pn c6) (by simp)) (And.intro (T1.out.getB (g := g7) (v := .slice A7 pn c7) (by simp)) (cells4 (T1.out.getC (g := gc) (u := u) (by simp))))))
 refine hK.out _ _ hS (fun _ => ?_)
 clear hK K
 refine wpAnyH_ready (rs := [11]) (by kernel_rfl) (by simp) (AllReadyH.cons rfl (fun K hK => ?_) AllReadyH.nil)
 go_simp
 refine (rget_lk A5 c5 qn q u.bx u.by_ _ _ _ (T1.out.getN (A := A5) (c := c5) (l := q) (by simp)) HQN.out.symm (by omega) HQS.out.1 (cv_r (T1.out.getU (g := gc) (u := u) (by simp)) KX.out KY.out).1 (cv_r (T1.out.getU (g := gc) (u := u) (by simp)) KX.out KY.out).2 (by show u.xs.length ≤ _; omega) (by show u.ys.length ≤ _; omega)).mono ?_
 rintro e W2 ⟨rfl, b⟩
 dsimp only
 have T2 := Lib.hid (T1.out.step b)
 clear b
 have hS := (And.intro (T2.out.getB (g := g5) (v := .slice A5 qn c5) (by simp)) (And.intro (T2.out.getB (g := g6) (v := .slice A6 pn c6) (by simp)) (And.intro (T2.out.getB (g := g7) (v := .slice A7 pn c7) (by simp)) (cells4 (T2.out.getC (g := gc) (u := u) (by simp))))))
 refine hK.out _ _ hS (fun _ => ?_)
 clear hK K
 refine wpAnyH_take (i := 12) (v := ?_) rfl (by kernel_rfl) (by kernel_rfl) (by kernel_rfl) (fun _ _ _ h => h) (Or.inl ⟨by rfl, ?_⟩) hS ?_
 rotate_left
 ·
  rintro w' ⟨s1, s2, s3, s4, s5, s6, s7⟩
  go_simp
  first | done | with_reducible rfl | rfl
 simp only [Act.put, LA]
 refine wpAnyH_take (i := 13) (v := ?_) rfl (by kernel_rfl) (by kernel_rfl) (by kernel_rfl) (fun _ _ _ h => h) (Or.inl ⟨by rfl, ?_⟩) hS ?_
 rotate_left
 ·
  rintro w' ⟨s1, s2, s3, s4, s5, s6, s7⟩
  go_simp
  first | done | with_reducible rfl | rfl
 simp only [Act.put, LA]
 refine wpAnyH_take (i := 14) (v := ?_) rfl (by kernel_rfl) (by kernel_rfl) (by kernel_rfl) (fun _ _ _ h => h) (Or.inl ⟨by rfl, ?_⟩) hS ?_
 rotate_left
 ·
  rintro w' ⟨s1, s2, s3, s4, s5, s6, s7⟩
  go_simp
  first | done | with_reducible rfl | rfl
 simp only [Act.put, LA]
 refine wpAnyH_take (i := 15) (v := ?_) rfl (by kernel_rfl) (by kernel_rfl) (by kernel_rfl) (fun _ _ _ h => h) (Or.inl ⟨by rfl, ?_⟩) hS ?_
 rotate_left
 ·
  rintro w' ⟨s1, s2, s3, s4, s5, s6, s7⟩
  go_simp
  first | done | with_reducible rfl | rfl
 simp only [Act.put, LA]
 refine wpAnyH_ready (rs := [16]) (by kernel_rfl) (by simp) (AllReadyH.cons rfl (fun K hK => ?_) AllReadyH.nil)
 go_simp
 refine (rsame_any A6 A7 c6 c7 pn pn p p _ (T2.out.getN (A := A6) (c := c6) (l := p) (by simp)) (T2.out.getN (A := A7) (c := c7) (l := p) (by simp)) HPN.out.symm HPN.out.symm).mono ?_
 rintro e W3 ⟨rfl, b⟩
 dsimp only
 rw [show decide (p = p) = true from decide_eq_true rfl]
 have T3 := Lib.hid (T2.out.step b)
 clear b
 have hS := (And.intro (T3.out.getB (g := g5) (v := .slice A5 qn c5) (by simp)) (And.intro (T3.out.getB (g := g6) (v := .slice A6 pn c6) (by simp)) (And.intro (T3.out.getB (g := g7) (v := .slice A7 pn c7) (by simp)) (cells4 (T3.out.getC (g := gc) (u := u) (by simp))))))
 refine hK.out _ _ hS (fun _ => ?_)
 clear hK K
 refine wpAnyH_take (i := 17) (v := ?_) rfl (by kernel_rfl) (by kernel_rfl) (by kernel_rfl) (fun _ _ _ h => h) (Or.inl ⟨by rfl, ?_⟩) hS ?_
 rotate_left
 ·
  rintro w' ⟨s1, s2, s3, s4, s5, s6, s7⟩
  go_simp
  first | done | with_reducible rfl | rfl
 simp only [Act.put, LA]
 refine wpAnyH_take (i := 18) (v := ?_) rfl (by kernel_rfl) (by kernel_rfl) (by kernel_rfl) (fun _ _ _ h => h) (Or.inl ⟨by rfl, ?_⟩) hS ?_
 rotate_left
 ·
  rintro w' ⟨s1, s2, s3, s4, s5, s6, s7⟩
  go_simp
  first | done | with_reducible rfl | rfl
 simp only [Act.put, LA]
 refine wpAnyH_take (i := 19) (v := ?_) rfl (by kernel_rfl) (by kernel_rfl) (by kernel_rfl) (fun _ _ _ h => h) (Or.inl ⟨by rfl, ?_⟩) hS ?_
 rotate_left
 ·
  rintro w' ⟨s1, s2, s3, s4, s5, s6, s7⟩
  go_simp
  first | done | with_reducible rfl | rfl
 simp only [Act.put, LA]
 refine wpAnyH_take (i := 20) (v := ?_) rfl (by kernel_rfl) (by kernel_rfl) (by kernel_rfl) (fun _ _ _ h => h) (Or.inl ⟨by rfl, ?_⟩) hS ?_
 rotate_left
 ·
  rintro w' ⟨s1, s2, s3, s4, s5, s6, s7⟩
  go_simp
  first | done | with_reducible rfl | rfl
 simp only [Act.put, LA]
 refine wpAnyH_take (i := 21) (v := ?_) rfl (by kernel_rfl) (by kernel_rfl) (by kernel_rfl) (fun _ _ _ h => h) (Or.inl ⟨by rfl, ?_⟩) hS ?_
 rotate_left
 ·
  rintro w' ⟨s1, s2, s3, s4, s5, s6, s7⟩
  go_simp
  first | done | with_reducible rfl | rfl
 simp only [Act.put, LA]
 refine wpAnyH_take (i := 22) (v := ?_) rfl (by kernel_rfl) (by kernel_rfl) (by kernel_rfl) (fun _ _ _ h => h) (Or.inl ⟨by rfl, ?_⟩) hS ?_
 rotate_left
 ·
  rintro w' ⟨s1, s2, s3, s4, s5, s6, s7⟩
  go_simp
  first | done | with_reducible rfl | rfl
 simp only [Act.put, LA]
 refine wpAnyH_take (i := 23) (v := ?_) rfl (by kernel_rfl) (by kernel_rfl) (by kernel_rfl) (fun _ _ _ h => h) (Or.inl ⟨by rfl, ?_⟩) hS ?_
 rotate_left
 ·
  rintro w' ⟨s1, s2, s3, s4, s5, s6, s7⟩
  go_simp
  first | done | with_reducible rfl | rfl
 simp only [Act.put, LA]
 refine wpAnyH_take (i := 24) (v := ?_) rfl (by kernel_rfl) (by kernel_rfl) (by kernel_rfl) (fun _ _ _ h => h) (Or.inl ⟨by rfl, ?_⟩) hS ?_
 rotate_left
 ·
  rintro w' ⟨s1, s2, s3, s4, s5, s6, s7⟩
  go_simp
  first | done | with_reducible rfl | rfl
 simp only [Act.put, LA]
 refine wpAnyH_take (i := 26) (v := ?_) rfl (by kernel_rfl) (by kernel_rfl) (by kernel_rfl) (fun _ _ _ h => h) (Or.inl ⟨by rfl, ?_⟩) hS ?_
 rotate_left
 ·
  rintro w' ⟨s1, s2, s3, s4, s5, s6, s7⟩
  go_simp
  first | done | with_reducible rfl | rfl
 simp only [Act.put, LA]
 refine wpAnyH_ready (rs := [25]) (by kernel_rfl) (by simp) (AllReadyH.cons rfl (fun K hK => ?_) AllReadyH.nil)
 go_simp
 refine (most_lk A5 c5 qn q _ (T3.out.getN (A := A5) (c := c5) (l := q) (by simp)) HQN.out.symm).mono ?_
 rintro e W4 ⟨rfl, b⟩
 dsimp only
 have T4 := Lib.hid (T3.out.step b)
 clear b
 have hS := (And.intro (T4.out.getB (g := g5) (v := .slice A5 qn c5) (by simp)) (And.intro (T4.out.getB (g := g6) (v := .slice A6 pn c6) (by simp)) (And.intro (T4.out.getB (g := g7) (v := .slice A7 pn c7) (by simp)) (cells4 (T4.out.getC (g := gc) (u := u) (by simp))))))
 refine hK.out _ _ hS (fun _ => ?_)
 clear hK K
 refine wpAnyH_ready (rs := [27]) (by kernel_rfl) (by simp) (AllReadyH.cons rfl (fun K hK => ?_) AllReadyH.nil)
 go_simp
 refine (rmost_lk A5 c5 qn q _ (T4.out.getN (A := A5) (c := c5) (l := q) (by simp)) HQN.out.symm).mono ?_
 rintro e W5 ⟨rfl, b⟩
 dsimp only
 have T5 := Lib.hid (T4.out.step b)
 clear b
 have hS := (And.intro (T5.out.getB (g := g5) (v := .slice A5 qn c5) (by simp)) (And.intro (T5.out.getB (g := g6) (v := .slice A6 pn c6) (by simp)) (And.intro (T5.out.getB (g := g7) (v := .slice A7 pn c7) (by simp)) (cells4 (T5.out.getC (g := gc) (u := u) (by simp))))))
 refine hK.out _ _ hS (fun _ => ?_)
 clear hK K
 refine wpAnyH_take (i := 28) (v := ?_) rfl (by kernel_rfl) (by kernel_rfl) (by kernel_rfl) (fun _ _ _ h => h) (Or.inl ⟨by rfl, ?_⟩) hS ?_
 rotate_left
 ·
  rintro w' ⟨s1, s2, s3, s4, s5, s6, s7⟩
  go_simp
  first | done | with_reducible rfl | rfl
 simp only [Act.put, LA]
 refine wpAnyH_take (i := 29) (v := ?_) rfl (by kernel_rfl) (by kernel_rfl) (by kernel_rfl) (fun _ _ _ h => h) (Or.inl ⟨by rfl, ?_⟩) hS ?_
 rotate_left
 ·
  rintro w' ⟨s1, s2, s3, s4, s5, s6, s7⟩
  go_simp
  first | done | with_reducible rfl | rfl
 simp only [Act.put, LA]
 refine wpAnyH_take (i := 30) (v := ?_) rfl (by kernel_rfl) (by kernel_rfl) (by kernel_rfl) (fun _ _ _ h => h) (Or.inl ⟨by rfl, ?_⟩) hS ?_
 rotate_left
 ·
  rintro w' ⟨s1, s2, s3, s4, s5, s6, s7⟩
  go_simp
  first | done | with_reducible rfl | rfl
 simp only [Act.put, LA]
 refine wpAnyH_done (by kernel_rfl) ?_ _
 refine NoPanic.normal ?_
 go_wp2_with fail
 go_ret
 exact ⟨rfl, T5.out.b⟩
theorem ldeep_law (A : Option Addr) (c : Nat) (k : Int) (l : List Nd) (u : Cv) (w : World) (h : Ns w A c l) (hA : A = none → c = 0) (hu : CvU w u) :
  Calls Try.prog 4 #[.slice A l.length c, .int .i64 k, cvv u] w fun e w' => e = .returned (.bool true) ∧ Below w.heap.size w w' := by
 by_cases h4 : l.length ≤ 40
 ·
  cases hg : greatB [u] 1 with
  | true => exact ldeep_great A c _ l k u w h rfl hA hu h4 hg
  | false =>
   obtain ⟨h1, h2⟩ := (great_lens hg).2 u (by simp)
   cases hx : rightI u.sx u.xs with
   | false => exact ldeep_badx A c _ l k u w h rfl hA hu h4 hg h1 hx
   | true =>
    cases hy : rightI u.sy u.ys with
    | false => exact ldeep_bady A c _ l k u w h rfl hA hu h4 hg h1 h2 hx hy
    | true =>
     cases ho : okB l k with
     | false => exact ldeep_no A c _ l k u w h rfl hA hu h4 hg h1 h2 hx hy ho
     | true => exact ldeep_yes A c _ l k u w h rfl hA hu h4 hg h1 h2 hx hy ho
 ·
  exact ldeep_long A c _ l k u w h rfl hA hu (by omega)
end Go.Proofs.Ytdmkiioimmmlbaa
