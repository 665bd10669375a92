/-
  box, the reference: Of.
  box: the fixed fact.
  Two numbers reckoned and kept in boxes of their own, in whatever order ('x, y := f(..), g(..)').
-/
import Derived.Test.YtlnmcilcifbcnaaGBxH
import Derived.Test.YtlnmcilcifbcnaaGBxT
import Derived.Test.YtlnmcilcifbcnaaGClG
import Derived.Test.YtlnmcilcifbcnaaGClRm
import Derived.Test.YtlnmcilcifbcnaaGClPj
import Derived.Test.YtlnmcilcifbcnaaGClRa
import Derived.Test.YtlnmcilcifbcnaaGNdsW
import Derived.Test.YtlnmcilcifbcnaaGLkGu
import Derived.Test.YtlnmcilcifbcnaaGClRow
import Derived.Test.YtlnmcilcifbcnaaLay0

set_option linter.unusedVariables false
set_option linter.unusedSimpArgs false
set_option maxRecDepth 100000
namespace Go.Proofs.Ytlnmcilcifbcnaa
open Go.RowKit Num Nds
structure OgJ (w W : World) (A : Option Addr) (c n : Nat) (l : List Nd) (K : List (Nat × Bw × Int)) : Prop where
 ag : Ag w W [(A, c, l)] [(w.heap.size, .slice A n c)] K
 r : W.heap[w.heap.size + 1]? = some xb0.obj
theorem OgJ.step {w W W' : World} {A : Option Addr} {c n : Nat} {l : List Nd} {K : List (Nat × Bw × Int)} (h : OgJ w W A c n l K) (k : Below W.heap.size W W') : OgJ w W' A c n l K := ⟨h.ag.step k, (k.block _ (heapLt h.r)).trans h.r⟩
theorem OgJ.q {w W : World} {A : Option Addr} {c n : Nat} {l : List Nd} {K : List (Nat × Bw × Int)} (h : OgJ w W A c n l K) : W.cell? ⟨w.heap.size, 0, none⟩ = some (.slice A n c) := h.ag.getB (by simp)
theorem OgJ.ns {w W : World} {A : Option Addr} {c n : Nat} {l : List Nd} {K : List (Nat × Bw × Int)} (h : OgJ w W A c n l K) : Ns W A c l := h.ag.getN (by simp)
end Go.Proofs.Ytlnmcilcifbcnaa

namespace Go.Proofs.Ytlnmcilcifbcnaa
open Go.RowKit Num Nds
theorem qs_goodL {q : List Nd} (h : QS q) : GoodL q := by
 have h1 := ofL_good h.1 (Nat.le_refl _)
 rwa [h.2] at h1
theorem wf_lvS {m : Nat} {t : Tr} (hw : wfT ((m : Int) + 1) t) (h : t ≠ .e) : t.lv = (m : Int) + 1 := by
 cases t with
 | e => exact absurd rfl h
 | s k => exact absurd hw.1 (by omega)
 | n v a b c d =>
  have hw' : wfT (((m + 1 : Nat)) : Int) (.n v a b c d) := hw
  obtain ⟨m', hm, rfl, -⟩ := wf_n hw'
  have : m = m' := by omega
  subst this
  rfl
theorem BxV.cells {q : List Nd} (hg : GoodL q) {ok : Bool} {X Y V H : Int} (b : BxV q q.length ok X Y V H) :
  (q = [] ∧ ok = false ∧ X = 0 ∧ Y = 0 ∧ V = 0 ∧ H = 0) ∨ (ok = true ∧ (∀ x y, cellM (den q q.length) x y ≠ 0 → X ≤ x ∧ x ≤ X + V - 1 ∧ Y ≤ y ∧ y ≤ Y + H - 1) ∧
   (∃ x y, cellM (den q q.length) x y ≠ 0 ∧ x = X) ∧ (∃ x y, cellM (den q q.length) x y ≠ 0 ∧ x = X + V - 1) ∧ (∃ x y, cellM (den q q.length) x y ≠ 0 ∧ y = Y) ∧ ∃ x y, cellM (den q q.length) x y ≠ 0 ∧ y = Y + H - 1) := by
 rcases b with ⟨h0, h1⟩ | ⟨h0, rfl, h1⟩
 ·
  exact .inl ⟨List.length_eq_zero_iff.1 h0, h1⟩
 ·
  refine .inr ⟨rfl, ?_⟩
  have hlv := fit_lv (loose_fit hg.1 (i := q.length - 1) (by omega))
  obtain ⟨m, hm⟩ : ∃ m : Nat, (at_ q (q.length - 1)).lv = (m : Int) + 1 := ⟨(at_ q (q.length - 1)).lv.toNat - 1, by omega⟩
  have hw := wf_den hg.1 (q.length - 1) (by omega)
  rw [Nat.sub_add_cancel (by omega), hm] at hw
  have hne := (hg.2 (q.length - 1) (by omega)).1
  rw [Nat.sub_add_cancel (by omega)] at hne
  have hn : (den q q.length).lv.toNat = (at_ q (q.length - 1)).lv.toNat := by rw [wf_lvS hw hne, hm]
  obtain ⟨t1, t2, t3, t4⟩ := h1.touch hn
  exact ⟨fun x y h => h1.cell hn h, t1, t2, t3, t4⟩
def two9 : List Cl := [⟨2, 3, 1⟩, ⟨5, 3, 9⟩]
theorem two9_last : lastF two9 = two9 := by kernel_rfl
theorem two9_least : leastF (lastF two9) = 4 := by kernel_rfl
theorem two9_lk (x y : Int) (h : lk two9 x y ≠ 0) : y = 3 ∧ (x = 2 ∨ x = 5) := by
 unfold two9 lk lk lk at h
 dsimp only at h
 split at h
 ·
  rename_i h1
  omega
 ·
  split at h
  ·
   rename_i h1
   omega
  ·
   exact absurd rfl h
theorem box9 {q : List Nd} (h : QuadOf (lastF two9) q) {ok : Bool} {X Y V H : Int} (b : BxV q q.length ok X Y V H) : ok = true ∧ X = 2 ∧ Y = 3 ∧ V = 4 ∧ H = 1 := by
 rw [two9_last] at h
 have hd := h.den
 have hg := qs_goodL (qs_quadOf h)
 have c1 : cellM (den q q.length) 2 3 = 1 := by rw [hd]; rfl
 have c2 : cellM (den q q.length) 5 3 = 9 := by rw [hd]; rfl
 have only : ∀ x y, cellM (den q q.length) x y ≠ 0 → y = 3 ∧ (x = 2 ∨ x = 5) := fun x y h => two9_lk x y (by rw [← hd]; exact h)
 rcases b.cells hg with ⟨rfl, -⟩ | ⟨rfl, hc, ⟨x1, y1, a1, rfl⟩, ⟨x2, y2, a2, e2⟩, ⟨x3, y3, a3, rfl⟩, ⟨x4, y4, a4, e4⟩⟩
 ·
  exact absurd c1 (by show ¬ ((0 : Int) = 1); omega)
 ·
  have b1 := hc 2 3 (by rw [c1]; omega)
  have b2 := hc 5 3 (by rw [c2]; omega)
  have k1 := only _ _ a1
  have k2 := only _ _ a2
  have k3 := only _ _ a3
  have k4 := only _ _ a4
  exact ⟨rfl, by omega, by omega, by omega, by omega⟩
theorem cs_two9 {w : World} {g : Nat} (u v : Cv) (h : w.heap[g]? = some (.cells #[.bool u.sx, .slice u.ax u.xs.length u.cx, .bool u.sy, .slice u.ay u.ys.length u.cy, .int .u8 u.st, .bool v.sx, .slice v.ax v.xs.length v.cx, .bool v.sy, .slice v.ay v.ys.length v.cy, .int .u8 v.st] 27)) (hu : CvU w u) (hv : CvU w v) : Cs w (some ⟨g, 0, none⟩) 2 [u, v] := by
 refine ⟨fun x hx => ?_, Nat.le_refl _, by simp [maxLen], fun _ => ⟨g, 0, rfl, (Array.getElem?_eq_some_iff.1 h).1, fun i hi => ?_⟩⟩
 ·
  simp only [List.mem_cons, List.not_mem_nil, or_false] at hx
  rcases hx with rfl | rfl
  ·
   exact hu
  ·
   exact hv
 ·
  match i, hi with
  | 0, _ => refine ⟨?_, ?_, ?_, ?_, ?_⟩ <;> (rw [cell_of_row _ _ _ _ _ _ h]; rfl)
  | 1, _ => refine ⟨?_, ?_, ?_, ?_, ?_⟩ <;> (rw [cell_of_row _ _ _ _ _ _ h]; rfl)
structure A9 (w W : World) (A : Option Addr) (c : Nat) (q : List Nd) (g2 gp : Nat) (p : Xb) : Prop where
 ag : Ag w W [(A, c, q)] [(g2, .slice A q.length c)] []
 pb : W.heap[gp]? = some p.obj
 pr : p.R W 2 3 4 1
theorem A9.next {w W W' : World} {A : Option Addr} {c : Nat} {q : List Nd} {g2 gp : Nat} {p : Xb} (h : A9 w W A c q g2 gp p) (k : Below W.heap.size W W') : A9 w W' A c q g2 gp p := ⟨h.ag.step k, (k.block _ (heapLt h.pb)).trans h.pb, h.pr.next k⟩
theorem A9.cells {w W : World} {A : Option Addr} {c : Nat} {q : List Nd} {g2 gp : Nat} {p : Xb} (h : A9 w W A c q g2 gp p) : W.cell? ⟨g2, 0, none⟩ = some (.slice A q.length c) ∧ W.cell? ⟨gp, 0, none⟩ = some (.bool p.x.s) ∧ W.cell? ⟨gp, 1, none⟩ = some (.slice p.x.a p.x.xs.length p.x.c) ∧ W.cell? ⟨gp, 2, none⟩ = some (.bool p.y.s) ∧ W.cell? ⟨gp, 3, none⟩ = some (.slice p.y.a p.y.xs.length p.y.c) ∧ W.cell? ⟨gp, 4, none⟩ = some (.bool p.w.s) ∧ W.cell? ⟨gp, 5, none⟩ = some (.slice p.w.a p.w.xs.length p.w.c) ∧ W.cell? ⟨gp, 6, none⟩ = some (.bool p.h.s) ∧ W.cell? ⟨gp, 7, none⟩ = some (.slice p.h.a p.h.xs.length p.h.c) := ⟨h.ag.getB (by simp), Xb.cells h.pb⟩
theorem A9.ns {w W : World} {A : Option Addr} {c : Nat} {q : List Nd} {g2 gp : Nat} {p : Xb} (h : A9 w W A c q g2 gp p) : Ns W A c q := h.ag.getN (by simp)
theorem near9 {n : Int} (h : -8 ≤ n ∧ n < 8) : -p2 1330 ≤ n ∧ n ≤ p2 1330 := by
 have h1 := p2_mono (show 3 ≤ 1330 by omega)
 have h2 : p2 3 = 8 := rfl
 omega
theorem canon_right9 {s : Bool} {xs : List Nat} (h : CanonI s xs) : rightI s xs = true := by
 unfold rightI
 rw [Bool.and_eq_true]
 constructor
 ·
  have h1 := h.1
  unfold Canon at h1
  rw [List.getLast?_eq_getElem?] at h1
  unfold rightB
  rw [Bool.or_eq_true]
  rcases Nat.eq_zero_or_pos xs.length with h0 | h0
  ·
   exact .inl (by rw [h0]; rfl)
  ·
   right
   rw [bne_iff_ne]
   rw [List.getElem?_eq_getElem (by omega)] at h1 ⊢
   exact fun e => h1 (by rw [← e]; rfl)
 ·
  cases s
  ·
   rfl
  ·
   have := h.2 rfl
   simp
   exact List.length_pos_iff.2 this
theorem okc9 {a b : Bw} {W : World} {X Y : Int} (h : a.R W X) (k : b.R W Y) {st : Nat} : okC ⟨a.s, a.a, a.c, a.xs, b.s, b.a, b.c, b.xs, st⟩ = true := by
 unfold okC
 rw [Bool.and_eq_true]
 exact ⟨canon_right9 h.cn, canon_right9 k.cn⟩
theorem rof_two {A : Option Addr} {c : Nat} {u v : Cv} {w : World} (h : Cs w A c [u, v]) (m1 : u.cl = ⟨2, 3, (1 : Nat)⟩) (m2 : v.cl = ⟨5, 3, (9 : Nat)⟩) (r1 : okC u = true) (r2 : okC v = true) (l1 : u.xs.length ≤ 60000 ∧ u.ys.length ≤ 60000) (l2 : v.xs.length ≤ 60000 ∧ v.ys.length ≤ 60000) :
  Calls Try.prog 37 #[.slice A 2 c] w fun e w' => ∃ A' c' qn q, e = .returned (.tuple #[.agg #[.slice A' qn c'], .int .i64 0]) ∧ q.length = qn ∧ Ns w' A' c' q ∧ (A' = none → c' = 0) ∧ Below w.heap.size w w' ∧ QuadOf (lastF two9) q := by
 refine (ror_any A c 2 [u, v] w h rfl (by omega) (fun x hx => ?_)).mono ?_
 ·
  simp only [List.mem_cons, List.not_mem_nil, or_false] at hx
  rcases hx with rfl | rfl
  ·
   exact l1
  ·
   exact l2
 ·
  rintro e w' ⟨A', c', qn, q, er, rfl, hq, hn, ha, hb, -, hy⟩
  have hm : [u, v].map Cv.cl = two9 := by
   rw [List.map_cons, List.map_cons, m1, m2]
   rfl
  obtain ⟨rfl, hqo⟩ := (hy (by simp [r1, r2])).2 (by rw [hm, two9_least]; omega)
  rw [hm] at hqo
  exact ⟨A', c', qn, q, rfl, hq, hn, ha, hb, hqo⟩
set_option maxHeartbeats 6400000 in
theorem alive9_any (w : World) : Calls Try.prog 25 #[] w fun e w' => e = .returned (.bool true) ∧ Below w.heap.size w w' := by
 have q0 : True := trivial
 go_enter Try.func25, Try.ntmps25
 go_upto_region 5 with (first
  | (have _t := q0; go_at_call 32; clear _t; go_loud (refine (rbof_any 2 _ (by omega) (by omega)).mono ?_; rintro e w1 h_; obtain ⟨a, rfl, r_, b_⟩ := retI_bw h_; have la := bw_len r_ (near9 (by omega)).1 (near9 (by omega)).2; have hca := r_.us.cap; have Ra := Lib.hid r_; have G1 := Lib.hid ((Ag.start w).step b_); clear h_ r_ b_; have q1 := q0; clear q0))
  | (have _t := q1; go_at_call 32; clear _t; go_loud (refine (rbof_any 3 _ (by omega) (by omega)).mono ?_; rintro e w2 h_; obtain ⟨b, rfl, r_, b_⟩ := retI_bw h_; have lb := bw_len r_ (near9 (by omega)).1 (near9 (by omega)).2; have hcb := r_.us.cap; have Ra := Lib.hid (Ra.out.next b_); have Rb := Lib.hid r_; have G2 := Lib.hid (G1.out.step b_); clear h_ r_ b_; have q2 := q1; clear q1))
  | (have _t := q2; go_at_call 32; clear _t; go_loud (refine (rbof_any 5 _ (by omega) (by omega)).mono ?_; rintro e w3 h_; obtain ⟨c, rfl, r_, b_⟩ := retI_bw h_; have lc := bw_len r_ (near9 (by omega)).1 (near9 (by omega)).2; have hcc := r_.us.cap; have Ra := Lib.hid (Ra.out.next b_); have Rb := Lib.hid (Rb.out.next b_); have Rc := Lib.hid r_; have G3 := Lib.hid (G2.out.step b_); clear h_ r_ b_; have q3 := q2; clear q2))
  | (have _t := q3; go_at_call 32; clear _t; go_loud (refine (rbof_any 3 _ (by omega) (by omega)).mono ?_; rintro e w4 h_; obtain ⟨d, rfl, r_, b_⟩ := retI_bw h_; have ld := bw_len r_ (near9 (by omega)).1 (near9 (by omega)).2; have hcd := r_.us.cap; have Ra := Lib.hid (Ra.out.next b_); have Rb := Lib.hid (Rb.out.next b_); have Rc := Lib.hid (Rc.out.next b_); have Rd := Lib.hid r_; have G4 := Lib.hid (G3.out.step b_); clear h_ r_ b_; have q4 := q3; clear q3))
  | (have _t := q4; go_at_call 37; clear _t; go_loud (have hal := (Below.refl w4.heap.size w4).alloc (Nat.le_refl _) (.cells #[.bool a.s, .slice a.a a.xs.length a.c, .bool b.s, .slice b.a b.xs.length b.c, .int .u8 1, .bool c.s, .slice c.a c.xs.length c.c, .bool d.s, .slice d.a d.xs.length d.c, .int .u8 9] 27); refine (rof_two (u := ⟨a.s, a.a, a.c, a.xs, b.s, b.a, b.c, b.xs, 1⟩) (v := ⟨c.s, c.a, c.c, c.xs, d.s, d.a, d.c, d.xs, 9⟩) (cs_two9 _ _ (heap_alloc_new w4 _) ⟨Ra.out.us.below hal, Rb.out.us.below hal, by show 1 ≤ 255; omega⟩ ⟨Rc.out.us.below hal, Rd.out.us.below hal, by show 9 ≤ 255; omega⟩) (by show (⟨ival a.s a.xs, ival b.s b.xs, _⟩ : Cl) = _; rw [Ra.out.v, Rb.out.v]) (by show (⟨ival c.s c.xs, ival d.s d.xs, _⟩ : Cl) = _; rw [Rc.out.v, Rd.out.v]) (okc9 Ra.out Rb.out) (okc9 Rc.out Rd.out) ⟨by show a.xs.length ≤ _; omega, by show b.xs.length ≤ _; omega⟩ ⟨by show c.xs.length ≤ _; omega, by show d.xs.length ≤ _; omega⟩).mono ?_; rintro e w5 ⟨A5, c5, qn, q, rfl, hqn, n5, a5, b5, hq⟩; have HQN := Lib.hid hqn; have hc5 := n5.cap; rw [hqn] at hc5; have HQ := Lib.hid hq; have ql := Lib.hid (hq.lenF); have G5 := Lib.hid ((((G4.out.step hal).step b5).addN n5).addB (.slice A5 qn c5)); have g5 := G5.out.getB (g := w5.heap.size) (v := .slice A5 qn c5) (by simp); clear hqn n5 a5 b5 hq hal; have q5 := q4; clear q4))
  | (have _t := q5; go_at_call 26; clear _t; go_loud (refine (box_any qn c5 A5 q _ (G5.out.getN (A := A5) (c := c5) (l := q) (by simp)) HQN.out (by have := ql.out.2; have := HQN.out; have : (lastF two9).length = 2 := rfl; omega) HQ.out.good).mono ?_; rintro e w6 ⟨p, X, Y, V, H, ok, rfl, rp, sp, b6, bv⟩; obtain ⟨rfl, rfl, rfl, rfl, rfl⟩ := box9 HQ.out (show BxV q q.length ok X Y V H by rw [HQN.out]; exact bv); have hal := (Below.refl w6.heap.size w6).alloc (Nat.le_refl _) p.obj; have S6 := Lib.hid (show A9 w (w6.alloc p.obj) A5 c5 q w5.heap.size w6.heap.size p by have hg := (G5.out.step b6).step hal; have hqn := HQN.out; subst hqn; exact ⟨hg, heap_alloc_new w6 _, rp.next hal⟩); have SP := Lib.hid sp; clear rp sp b6 bv hal; have q6 := q5; clear q5))
  | (have _t := q6; go_at_call 26; clear _t; go_loud (refine (box_zero none 0 _).mono ?_; rintro e w7 ⟨z, X, Y, V, H, ok, rfl, rz, sz, b7, bv⟩; obtain ⟨rfl, -⟩ := (bv.resolve_right (fun e => absurd e.1 (by omega))).2; have S7 := Lib.hid ((S6.out.next b7).next ((Below.refl w7.heap.size w7).alloc (Nat.le_refl _) z.obj)); clear rz sz b7 bv; have q7 := q6; clear q6)))
 obtain ⟨g2, hg2⟩ : ∃ g, g = w5.heap.size := ⟨_, rfl⟩
 obtain ⟨gp, hgp⟩ : ∃ g, g = w6.heap.size := ⟨_, rfl⟩
 obtain ⟨W0, hW0⟩ : ∃ W0 : World, W0 = (w7.alloc z.obj).drewN 1 := ⟨_, rfl⟩
 have T0 := Lib.hid (S7.out.next (below_drewN (Below.refl _ (w7.alloc z.obj)) 1))
 rw [← hg2, ← hgp, ← hW0] at T0
 refine wp_region_noPanic ?_
 refine wp_region_held (S := fun w' => w'.cell? ⟨g2, 0, none⟩ = some (.slice A5 qn c5) ∧ w'.cell? ⟨gp, 0, none⟩ = some (.bool p.x.s) ∧ w'.cell? ⟨gp, 1, none⟩ = some (.slice p.x.a p.x.xs.length p.x.c) ∧ w'.cell? ⟨gp, 2, none⟩ = some (.bool p.y.s) ∧ w'.cell? ⟨gp, 3, none⟩ = some (.slice p.y.a p.y.xs.length p.y.c) ∧ w'.cell? ⟨gp, 4, none⟩ = some (.bool p.w.s) ∧ w'.cell? ⟨gp, 5, none⟩ = some (.slice p.w.a p.w.xs.length p.w.c) ∧ w'.cell? ⟨gp, 6, none⟩ = some (.bool p.h.s) ∧ w'.cell? ⟨gp, 7, none⟩ = some (.slice p.h.a p.h.xs.length p.h.c)) (by kernel_rfl) ?_
 change wpAnyH _ _ _ _ _ _ _ _ ((w7.alloc z.obj).drewN 1)
 rw [← hW0, ← hg2, ← hgp]
 have QN : ∀ (W : World), A9 w W A5 c5 q g2 gp p → (fun w' => w'.cell? ⟨g2, 0, none⟩ = some (.slice A5 qn c5) ∧ w'.cell? ⟨gp, 0, none⟩ = some (.bool p.x.s) ∧ w'.cell? ⟨gp, 1, none⟩ = some (.slice p.x.a p.x.xs.length p.x.c) ∧ w'.cell? ⟨gp, 2, none⟩ = some (.bool p.y.s) ∧ w'.cell? ⟨gp, 3, none⟩ = some (.slice p.y.a p.y.xs.length p.y.c) ∧ w'.cell? ⟨gp, 4, none⟩ = some (.bool p.w.s) ∧ w'.cell? ⟨gp, 5, none⟩ = some (.slice p.w.a p.w.xs.length p.w.c) ∧ w'.cell? ⟨gp, 6, none⟩ = some (.bool p.h.s) ∧ w'.cell? ⟨gp, 7, none⟩ = some (.slice p.h.a p.h.xs.length p.h.c)) W := fun W h => by
  have h9 := h.cells
  rw [HQN.out] at h9
  exact h9
 have HQN9 := Lib.hid QN
 clear hW0 hg2 hgp g5 G1 G2 G3 G4 G5 S6 S7 q7 Ra Rb Rc Rd QN
 have hS0 := HQN9.out _ T0.out
 refine wpAnyH_take (i := 0) (v := ?_) rfl (by kernel_rfl) (by kernel_rfl) (by kernel_rfl) (fun _ _ _ h => h) (Or.inl ⟨by rfl, ?_⟩) hS0 ?_
 rotate_left
 ·
  rintro w' ⟨s0_, s1_, s2_, s3_, s4_, s5_, s6_, s7_, s8_⟩
  go_simp
  first | done | with_reducible rfl | rfl
 simp only [Act.put, LA]
 refine wpAnyH_take (i := 1) (v := ?_) rfl (by kernel_rfl) (by kernel_rfl) (by kernel_rfl) (fun _ _ _ h => h) (Or.inl ⟨by rfl, ?_⟩) hS0 ?_
 rotate_left
 ·
  rintro w' ⟨s0_, s1_, s2_, s3_, s4_, s5_, s6_, s7_, s8_⟩
  go_simp
  first | done | with_reducible rfl | rfl
 simp only [Act.put, LA]
 refine wpAnyH_take (i := 2) (v := ?_) rfl (by kernel_rfl) (by kernel_rfl) (by kernel_rfl) (fun _ _ _ h => h) (Or.inl ⟨by rfl, ?_⟩) hS0 ?_
 rotate_left
 ·
  rintro w' ⟨s0_, s1_, s2_, s3_, s4_, s5_, s6_, s7_, s8_⟩
  go_simp
  first | done | with_reducible rfl | rfl
 simp only [Act.put, LA]
 refine wpAnyH_take (i := 3) (v := ?_) rfl (by kernel_rfl) (by kernel_rfl) (by kernel_rfl) (fun _ _ _ h => h) (Or.inl ⟨by rfl, ?_⟩) hS0 ?_
 rotate_left
 ·
  rintro w' ⟨s0_, s1_, s2_, s3_, s4_, s5_, s6_, s7_, s8_⟩
  go_simp
  first | done | with_reducible rfl | rfl
 simp only [Act.put, LA]
 refine wpAnyH_take (i := 4) (v := ?_) rfl (by kernel_rfl) (by kernel_rfl) (by kernel_rfl) (fun _ _ _ h => h) (Or.inl ⟨by rfl, ?_⟩) hS0 ?_
 rotate_left
 ·
  rintro w' ⟨s0_, s1_, s2_, s3_, s4_, s5_, s6_, s7_, s8_⟩
  go_simp
  first | done | with_reducible rfl | rfl
 simp only [Act.put, LA]
 refine wpAnyH_take (i := 5) (v := ?_) rfl (by kernel_rfl) (by kernel_rfl) (by kernel_rfl) (fun _ _ _ h => h) (Or.inl ⟨by rfl, ?_⟩) hS0 ?_
 rotate_left
 ·
  rintro w' ⟨s0_, s1_, s2_, s3_, s4_, s5_, s6_, s7_, s8_⟩
  go_simp
  first | done | with_reducible rfl | rfl
 simp only [Act.put, LA]
 refine wpAnyH_take (i := 6) (v := ?_) rfl (by kernel_rfl) (by kernel_rfl) (by kernel_rfl) (fun _ _ _ h => h) (Or.inl ⟨by rfl, ?_⟩) hS0 ?_
 rotate_left
 ·
  rintro w' ⟨s0_, s1_, s2_, s3_, s4_, s5_, s6_, s7_, s8_⟩
  go_simp
  first | done | with_reducible rfl | rfl
 simp only [Act.put, LA]
 refine wpAnyH_take (i := 7) (v := ?_) rfl (by kernel_rfl) (by kernel_rfl) (by kernel_rfl) (fun _ _ _ h => h) (Or.inl ⟨by rfl, ?_⟩) hS0 ?_
 rotate_left
 ·
  rintro w' ⟨s0_, s1_, s2_, s3_, s4_, s5_, s6_, s7_, s8_⟩
  go_simp
  first | done | with_reducible rfl | rfl
 simp only [Act.put, LA]
 refine wpAnyH_take (i := 9) (v := ?_) rfl (by kernel_rfl) (by kernel_rfl) (by kernel_rfl) (fun _ _ _ h => h) (Or.inl ⟨by rfl, ?_⟩) hS0 ?_
 rotate_left
 ·
  rintro w' ⟨s0_, s1_, s2_, s3_, s4_, s5_, s6_, s7_, s8_⟩
  go_simp
  first | done | with_reducible rfl | rfl
 simp only [Act.put, LA]
 refine wpAnyH_take (i := 11) (v := ?_) rfl (by kernel_rfl) (by kernel_rfl) (by kernel_rfl) (fun _ _ _ h => h) (Or.inl ⟨by rfl, ?_⟩) hS0 ?_
 rotate_left
 ·
  rintro w' ⟨s0_, s1_, s2_, s3_, s4_, s5_, s6_, s7_, s8_⟩
  go_simp
  first | done | with_reducible rfl | rfl
 simp only [Act.put, LA]
 refine wpAnyH_take (i := 13) (v := ?_) rfl (by kernel_rfl) (by kernel_rfl) (by kernel_rfl) (fun _ _ _ h => h) (Or.inl ⟨by rfl, ?_⟩) hS0 ?_
 rotate_left
 ·
  rintro w' ⟨s0_, s1_, s2_, s3_, s4_, s5_, s6_, s7_, s8_⟩
  go_simp
  first | done | with_reducible rfl | rfl
 simp only [Act.put, LA]
 refine wpAnyH_ready (rs := [8]) (by kernel_rfl) (by simp) (AllReadyH.cons rfl (fun K hK => ?_) AllReadyH.nil)
 go_simp
 refine (rbof_any 2 _ (by omega) (by omega)).mono ?_
 rintro e W1 h_
 obtain ⟨s, rfl, r_, b_⟩ := retI_bw h_
 have ls := bw_len r_ (near9 (by omega)).1 (near9 (by omega)).2
 have hcs := r_.us.cap
 have Rs := Lib.hid r_
 dsimp only
 have T1 := Lib.hid (T0.out.next b_)
 have hS1 := HQN9.out _ T1.out
 refine hK.out _ _ hS1 (fun _ => ?_)
 clear hK K
 refine wpAnyH_ready (rs := [10]) (by kernel_rfl) (by simp) (AllReadyH.cons rfl (fun K hK => ?_) AllReadyH.nil)
 go_simp
 refine (rbof_any 3 _ (by omega) (by omega)).mono ?_
 rintro e W2 h_
 obtain ⟨t, rfl, r_, b_⟩ := retI_bw h_
 have lt := bw_len r_ (near9 (by omega)).1 (near9 (by omega)).2
 have hct := r_.us.cap
 have Rt := Lib.hid r_
 dsimp only
 have T2 := Lib.hid (T1.out.next b_)
 have Rs := Lib.hid (Rs.out.next b_)
 have hS2 := HQN9.out _ T2.out
 refine hK.out _ _ hS2 (fun _ => ?_)
 clear hK K
 refine wpAnyH_ready (rs := [12]) (by kernel_rfl) (by simp) (AllReadyH.cons rfl (fun K hK => ?_) AllReadyH.nil)
 go_simp
 refine (rbof_any 4 _ (by omega) (by omega)).mono ?_
 rintro e W3 h_
 obtain ⟨u, rfl, r_, b_⟩ := retI_bw h_
 have lu := bw_len r_ (near9 (by omega)).1 (near9 (by omega)).2
 have hcu := r_.us.cap
 have Ru := Lib.hid r_
 dsimp only
 have T3 := Lib.hid (T2.out.next b_)
 have Rs := Lib.hid (Rs.out.next b_)
 have Rt := Lib.hid (Rt.out.next b_)
 have hS3 := HQN9.out _ T3.out
 refine hK.out _ _ hS3 (fun _ => ?_)
 clear hK K
 refine wpAnyH_ready (rs := [14]) (by kernel_rfl) (by simp) (AllReadyH.cons rfl (fun K hK => ?_) AllReadyH.nil)
 go_simp
 refine (rbof_any 1 _ (by omega) (by omega)).mono ?_
 rintro e W4 h_
 obtain ⟨v, rfl, r_, b_⟩ := retI_bw h_
 have lv := bw_len r_ (near9 (by omega)).1 (near9 (by omega)).2
 have hcv := r_.us.cap
 have Rv := Lib.hid r_
 dsimp only
 have T4 := Lib.hid (T3.out.next b_)
 have Rs := Lib.hid (Rs.out.next b_)
 have Rt := Lib.hid (Rt.out.next b_)
 have Ru := Lib.hid (Ru.out.next b_)
 have hS4 := HQN9.out _ T4.out
 refine hK.out _ _ hS4 (fun _ => ?_)
 clear hK K
 refine wpAnyH_take (i := 15) (v := ?_) rfl (by kernel_rfl) (by kernel_rfl) (by kernel_rfl) (fun _ _ _ h => h) (Or.inl ⟨by rfl, ?_⟩) hS4 ?_
 rotate_left
 ·
  rintro w' ⟨s0_, s1_, s2_, s3_, s4_, s5_, s6_, s7_, s8_⟩
  go_simp
  first | done | with_reducible rfl | rfl
 simp only [Act.put, LA]
 refine wpAnyH_ready (rs := [16]) (by kernel_rfl) (by simp) (AllReadyH.cons rfl (fun K hK => ?_) AllReadyH.nil)
 go_simp
 refine (rxsame_any p ⟨s, t, u, v⟩ 2 3 4 1 2 3 4 1 _ T4.out.pr ⟨Rs.out, Rt.out, Ru.out, Rv.out⟩ SP.out ⟨by show s.xs.length ≤ _; omega, by show t.xs.length ≤ _; omega, by show u.xs.length ≤ _; omega, by show v.xs.length ≤ _; omega⟩).mono ?_
 rintro e W5 ⟨rfl, b_⟩
 rw [show decide ((2 : Int) = 2 ∧ (3 : Int) = 3 ∧ (4 : Int) = 4 ∧ (1 : Int) = 1) = true from rfl]
 dsimp only
 have T5 := Lib.hid (T4.out.next b_)
 have hS5 := HQN9.out _ T5.out
 refine hK.out _ _ hS5 (fun _ => ?_)
 clear hK K
 refine wpAnyH_take (i := 17) (v := ?_) rfl (by kernel_rfl) (by kernel_rfl) (by kernel_rfl) (fun _ _ _ h => h) (Or.inl ⟨by rfl, ?_⟩) hS5 ?_
 rotate_left
 ·
  rintro w' ⟨s0_, s1_, s2_, s3_, s4_, s5_, s6_, s7_, s8_⟩
  go_simp
  first | done | with_reducible rfl | rfl
 simp only [Act.put, LA]
 refine wpAnyH_take (i := 18) (v := ?_) rfl (by kernel_rfl) (by kernel_rfl) (by kernel_rfl) (fun _ _ _ h => h) (Or.inl ⟨by rfl, ?_⟩) hS5 ?_
 rotate_left
 ·
  rintro w' ⟨s0_, s1_, s2_, s3_, s4_, s5_, s6_, s7_, s8_⟩
  go_simp
  first | done | with_reducible rfl | rfl
 simp only [Act.put, LA]
 refine wpAnyH_take (i := 19) (v := ?_) rfl (by kernel_rfl) (by kernel_rfl) (by kernel_rfl) (fun _ _ _ h => h) (Or.inl ⟨by rfl, ?_⟩) hS5 ?_
 rotate_left
 ·
  rintro w' ⟨s0_, s1_, s2_, s3_, s4_, s5_, s6_, s7_, s8_⟩
  go_simp
  first | done | with_reducible rfl | rfl
 simp only [Act.put, LA]
 refine wpAnyH_ready (rs := [20]) (by kernel_rfl) (by simp) (AllReadyH.cons rfl (fun K hK => ?_) AllReadyH.nil)
 go_simp
 refine (boxin_any qn c5 A5 q (4) _ T5.out.ns HQN.out (by have := ql.out.2; have := HQN.out; have : (lastF two9).length = 2 := rfl; omega) HQ.out.good (by omega)).mono ?_
 rintro e W6 ⟨X, Y, V, H, ok, rfl, bv, b_⟩
 obtain ⟨rfl, rfl, rfl, rfl, rfl⟩ := box9 HQ.out (show BxV q q.length ok X Y V H by rw [HQN.out]; exact bv)
 rw [show (decide ((4 : Int) ≤ 4) && decide ((1 : Int) ≤ 4)) = true from rfl]
 dsimp only
 have T6 := Lib.hid (T5.out.next b_)
 have hS6 := HQN9.out _ T6.out
 refine hK.out _ _ hS6 (fun _ => ?_)
 clear hK K
 refine wpAnyH_take (i := 21) (v := ?_) rfl (by kernel_rfl) (by kernel_rfl) (by kernel_rfl) (fun _ _ _ h => h) (Or.inl ⟨by rfl, ?_⟩) hS6 ?_
 rotate_left
 ·
  rintro w' ⟨s0_, s1_, s2_, s3_, s4_, s5_, s6_, s7_, s8_⟩
  go_simp
  first | done | with_reducible rfl | rfl
 simp only [Act.put, LA]
 refine wpAnyH_take (i := 22) (v := ?_) rfl (by kernel_rfl) (by kernel_rfl) (by kernel_rfl) (fun _ _ _ h => h) (Or.inl ⟨by rfl, ?_⟩) hS6 ?_
 rotate_left
 ·
  rintro w' ⟨s0_, s1_, s2_, s3_, s4_, s5_, s6_, s7_, s8_⟩
  go_simp
  first | done | with_reducible rfl | rfl
 simp only [Act.put, LA]
 refine wpAnyH_take (i := 23) (v := ?_) rfl (by kernel_rfl) (by kernel_rfl) (by kernel_rfl) (fun _ _ _ h => h) (Or.inl ⟨by rfl, ?_⟩) hS6 ?_
 rotate_left
 ·
  rintro w' ⟨s0_, s1_, s2_, s3_, s4_, s5_, s6_, s7_, s8_⟩
  go_simp
  first | done | with_reducible rfl | rfl
 simp only [Act.put, LA]
 refine wpAnyH_ready (rs := [24]) (by kernel_rfl) (by simp) (AllReadyH.cons rfl (fun K hK => ?_) AllReadyH.nil)
 go_simp
 refine (boxin_any qn c5 A5 q (3) _ T6.out.ns HQN.out (by have := ql.out.2; have := HQN.out; have : (lastF two9).length = 2 := rfl; omega) HQ.out.good (by omega)).mono ?_
 rintro e W7 ⟨X, Y, V, H, ok, rfl, bv, b_⟩
 obtain ⟨rfl, rfl, rfl, rfl, rfl⟩ := box9 HQ.out (show BxV q q.length ok X Y V H by rw [HQN.out]; exact bv)
 rw [show (decide ((4 : Int) ≤ 3) && decide ((1 : Int) ≤ 3)) = false from rfl]
 dsimp only
 have T7 := Lib.hid (T6.out.next b_)
 have hS7 := HQN9.out _ T7.out
 refine hK.out _ _ hS7 (fun _ => ?_)
 clear hK K
 refine wpAnyH_take (i := 25) (v := ?_) rfl (by kernel_rfl) (by kernel_rfl) (by kernel_rfl) (fun _ _ _ h => h) (Or.inl ⟨by rfl, ?_⟩) hS7 ?_
 rotate_left
 ·
  rintro w' ⟨s0_, s1_, s2_, s3_, s4_, s5_, s6_, s7_, s8_⟩
  go_simp
  first | done | with_reducible rfl | rfl
 simp only [Act.put, LA]
 refine wpAnyH_take (i := 26) (v := ?_) rfl (by kernel_rfl) (by kernel_rfl) (by kernel_rfl) (fun _ _ _ h => h) (Or.inl ⟨by rfl, ?_⟩) hS7 ?_
 rotate_left
 ·
  rintro w' ⟨s0_, s1_, s2_, s3_, s4_, s5_, s6_, s7_, s8_⟩
  go_simp
  first | done | with_reducible rfl | rfl
 simp only [Act.put, LA]
 refine wpAnyH_take (i := 27) (v := ?_) rfl (by kernel_rfl) (by kernel_rfl) (by kernel_rfl) (fun _ _ _ h => h) (Or.inl ⟨by rfl, ?_⟩) hS7 ?_
 rotate_left
 ·
  rintro w' ⟨s0_, s1_, s2_, s3_, s4_, s5_, s6_, s7_, s8_⟩
  go_simp
  first | done | with_reducible rfl | rfl
 simp only [Act.put, LA]
 refine wpAnyH_take (i := 28) (v := ?_) rfl (by kernel_rfl) (by kernel_rfl) (by kernel_rfl) (fun _ _ _ h => h) (Or.inl ⟨by rfl, ?_⟩) hS7 ?_
 rotate_left
 ·
  rintro w' ⟨s0_, s1_, s2_, s3_, s4_, s5_, s6_, s7_, s8_⟩
  go_simp
  first | done | with_reducible rfl | rfl
 simp only [Act.put, LA]
 refine wpAnyH_ready (rs := [29]) (by kernel_rfl) (by simp) (AllReadyH.cons rfl (fun K hK => ?_) AllReadyH.nil)
 go_simp
 refine (boxin_any 0 0 none [] (0) _ (ns_nil _) rfl (by omega) good_nil (by omega)).mono ?_
 rintro e W8 ⟨X, Y, V, H, ok, rfl, bv, b_⟩
 obtain ⟨rfl, rfl, rfl, rfl, rfl⟩ := (bv.resolve_right (fun e => absurd e.1 (by omega))).2
 rw [show (decide ((0 : Int) ≤ 0) && decide ((0 : Int) ≤ 0)) = true from rfl]
 dsimp only
 have T8 := Lib.hid (T7.out.next b_)
 have hS8 := HQN9.out _ T8.out
 refine hK.out _ _ hS8 (fun _ => ?_)
 clear hK K
 refine wpAnyH_take (i := 30) (v := ?_) rfl (by kernel_rfl) (by kernel_rfl) (by kernel_rfl) (fun _ _ _ h => h) (Or.inl ⟨by rfl, ?_⟩) hS8 ?_
 rotate_left
 ·
  rintro w' ⟨s0_, s1_, s2_, s3_, s4_, s5_, s6_, s7_, s8_⟩
  go_simp
  first | done | with_reducible rfl | rfl
 simp only [Act.put, LA]
 refine wpAnyH_take (i := 31) (v := ?_) rfl (by kernel_rfl) (by kernel_rfl) (by kernel_rfl) (fun _ _ _ h => h) (Or.inl ⟨by rfl, ?_⟩) hS8 ?_
 rotate_left
 ·
  rintro w' ⟨s0_, s1_, s2_, s3_, s4_, s5_, s6_, s7_, s8_⟩
  go_simp
  first | done | with_reducible rfl | rfl
 simp only [Act.put, LA]
 refine wpAnyH_take (i := 32) (v := ?_) rfl (by kernel_rfl) (by kernel_rfl) (by kernel_rfl) (fun _ _ _ h => h) (Or.inl ⟨by rfl, ?_⟩) hS8 ?_
 rotate_left
 ·
  rintro w' ⟨s0_, s1_, s2_, s3_, s4_, s5_, s6_, s7_, s8_⟩
  go_simp
  first | done | with_reducible rfl | rfl
 simp only [Act.put, LA]
 refine wpAnyH_ready (rs := [33]) (by kernel_rfl) (by simp) (AllReadyH.cons rfl (fun K hK => ?_) AllReadyH.nil)
 go_simp
 refine (boxin_any 0 0 none [] (-1) _ (ns_nil _) rfl (by omega) good_nil (by omega)).mono ?_
 rintro e W9 ⟨X, Y, V, H, ok, rfl, bv, b_⟩
 obtain ⟨rfl, rfl, rfl, rfl, rfl⟩ := (bv.resolve_right (fun e => absurd e.1 (by omega))).2
 rw [show (decide ((0 : Int) ≤ -1) && decide ((0 : Int) ≤ -1)) = false from rfl]
 dsimp only
 have T9 := Lib.hid (T8.out.next b_)
 have hS9 := HQN9.out _ T9.out
 refine hK.out _ _ hS9 (fun _ => ?_)
 clear hK K
 refine wpAnyH_take (i := 34) (v := ?_) rfl (by kernel_rfl) (by kernel_rfl) (by kernel_rfl) (fun _ _ _ h => h) (Or.inl ⟨by rfl, ?_⟩) hS9 ?_
 rotate_left
 ·
  rintro w' ⟨s0_, s1_, s2_, s3_, s4_, s5_, s6_, s7_, s8_⟩
  go_simp
  first | done | with_reducible rfl | rfl
 simp only [Act.put, LA]
 refine wpAnyH_take (i := 35) (v := ?_) rfl (by kernel_rfl) (by kernel_rfl) (by kernel_rfl) (fun _ _ _ h => h) (Or.inl ⟨by rfl, ?_⟩) hS9 ?_
 rotate_left
 ·
  rintro w' ⟨s0_, s1_, s2_, s3_, s4_, s5_, s6_, s7_, s8_⟩
  go_simp
  first | done | with_reducible rfl | rfl
 simp only [Act.put, LA]
 refine wpAnyH_take (i := 36) (v := ?_) rfl (by kernel_rfl) (by kernel_rfl) (by kernel_rfl) (fun _ _ _ h => h) (Or.inl ⟨by rfl, ?_⟩) hS9 ?_
 rotate_left
 ·
  rintro w' ⟨s0_, s1_, s2_, s3_, s4_, s5_, s6_, s7_, s8_⟩
  go_simp
  first | done | with_reducible rfl | rfl
 simp only [Act.put, LA]
 refine wpAnyH_take (i := 37) (v := ?_) rfl (by kernel_rfl) (by kernel_rfl) (by kernel_rfl) (fun _ _ _ h => h) (Or.inl ⟨by rfl, ?_⟩) hS9 ?_
 rotate_left
 ·
  rintro w' ⟨s0_, s1_, s2_, s3_, s4_, s5_, s6_, s7_, s8_⟩
  go_simp
  first | done | with_reducible rfl | rfl
 simp only [Act.put, LA]
 refine wpAnyH_take (i := 38) (v := ?_) rfl (by kernel_rfl) (by kernel_rfl) (by kernel_rfl) (fun _ _ _ h => h) (Or.inl ⟨by rfl, ?_⟩) hS9 ?_
 rotate_left
 ·
  rintro w' ⟨s0_, s1_, s2_, s3_, s4_, s5_, s6_, s7_, s8_⟩
  go_simp
  first | done | with_reducible rfl | rfl
 simp only [Act.put, LA]
 refine wpAnyH_ready (rs := [39]) (by kernel_rfl) (by simp) (AllReadyH.cons rfl (fun K hK => ?_) AllReadyH.nil)
 go_simp
 refine (bxsame_any p p 2 3 4 1 2 3 4 1 _ T9.out.pr T9.out.pr SP.out SP.out).mono ?_
 rintro e W10 ⟨rfl, b_⟩
 rw [show decide ((2 : Int) = 2 ∧ (3 : Int) = 3 ∧ (4 : Int) = 4 ∧ (1 : Int) = 1) = true from rfl]
 dsimp only
 have T10 := Lib.hid (T9.out.next b_)
 have hS10 := HQN9.out _ T10.out
 refine hK.out _ _ hS10 (fun _ => ?_)
 clear hK K
 refine wpAnyH_take (i := 40) (v := ?_) rfl (by kernel_rfl) (by kernel_rfl) (by kernel_rfl) (fun _ _ _ h => h) (Or.inl ⟨by rfl, ?_⟩) hS10 ?_
 rotate_left
 ·
  rintro w' ⟨s0_, s1_, s2_, s3_, s4_, s5_, s6_, s7_, s8_⟩
  go_simp
  first | done | with_reducible rfl | rfl
 simp only [Act.put, LA]
 refine wpAnyH_take (i := 41) (v := ?_) rfl (by kernel_rfl) (by kernel_rfl) (by kernel_rfl) (fun _ _ _ h => h) (Or.inl ⟨by rfl, ?_⟩) hS10 ?_
 rotate_left
 ·
  rintro w' ⟨s0_, s1_, s2_, s3_, s4_, s5_, s6_, s7_, s8_⟩
  go_simp
  first | done | with_reducible rfl | rfl
 simp only [Act.put, LA]
 refine wpAnyH_take (i := 42) (v := ?_) rfl (by kernel_rfl) (by kernel_rfl) (by kernel_rfl) (fun _ _ _ h => h) (Or.inl ⟨by rfl, ?_⟩) hS10 ?_
 rotate_left
 ·
  rintro w' ⟨s0_, s1_, s2_, s3_, s4_, s5_, s6_, s7_, s8_⟩
  go_simp
  first | done | with_reducible rfl | rfl
 simp only [Act.put, LA]
 refine wpAnyH_take (i := 43) (v := ?_) rfl (by kernel_rfl) (by kernel_rfl) (by kernel_rfl) (fun _ _ _ h => h) (Or.inl ⟨by rfl, ?_⟩) hS10 ?_
 rotate_left
 ·
  rintro w' ⟨s0_, s1_, s2_, s3_, s4_, s5_, s6_, s7_, s8_⟩
  go_simp
  first | done | with_reducible rfl | rfl
 simp only [Act.put, LA]
 refine wpAnyH_ready (rs := [44]) (by kernel_rfl) (by simp) (AllReadyH.cons rfl (fun K hK => ?_) AllReadyH.nil)
 go_simp
 refine (bxsame_any p xb0 2 3 4 1 0 0 0 0 _ T10.out.pr ⟨bw0_r _, bw0_r _, bw0_r _, bw0_r _⟩ SP.out ⟨by simp [xb0, bw0], by simp [xb0, bw0], by simp [xb0, bw0], by simp [xb0, bw0]⟩).mono ?_
 rintro e W11 ⟨rfl, b_⟩
 rw [show decide ((2 : Int) = 0 ∧ (3 : Int) = 0 ∧ (4 : Int) = 0 ∧ (1 : Int) = 0) = false from rfl]
 dsimp only
 have T11 := Lib.hid (T10.out.next b_)
 have hS11 := HQN9.out _ T11.out
 refine hK.out _ _ hS11 (fun _ => ?_)
 clear hK K
 refine wpAnyH_take (i := 45) (v := ?_) rfl (by kernel_rfl) (by kernel_rfl) (by kernel_rfl) (fun _ _ _ h => h) (Or.inl ⟨by rfl, ?_⟩) hS11 ?_
 rotate_left
 ·
  rintro w' ⟨s0_, s1_, s2_, s3_, s4_, s5_, s6_, s7_, s8_⟩
  go_simp
  first | done | with_reducible rfl | rfl
 simp only [Act.put, LA]
 refine wpAnyH_take (i := 46) (v := ?_) rfl (by kernel_rfl) (by kernel_rfl) (by kernel_rfl) (fun _ _ _ h => h) (Or.inl ⟨by rfl, ?_⟩) hS11 ?_
 rotate_left
 ·
  rintro w' ⟨s0_, s1_, s2_, s3_, s4_, s5_, s6_, s7_, s8_⟩
  go_simp
  first | done | with_reducible rfl | rfl
 simp only [Act.put, LA]
 refine wpAnyH_take (i := 47) (v := ?_) rfl (by kernel_rfl) (by kernel_rfl) (by kernel_rfl) (fun _ _ _ h => h) (Or.inl ⟨by rfl, ?_⟩) hS11 ?_
 rotate_left
 ·
  rintro w' ⟨s0_, s1_, s2_, s3_, s4_, s5_, s6_, s7_, s8_⟩
  go_simp
  first | done | with_reducible rfl | rfl
 simp only [Act.put, LA]
 refine wpAnyH_done (by kernel_rfl) ?_ _
 refine NoPanic.normal ?_
 go_wp2_with fail
 go_ret
 exact ⟨rfl, T11.out.ag.b⟩
end Go.Proofs.Ytlnmcilcifbcnaa

namespace Go.Proofs.Ytlnmcilcifbcnaa
open Go.RowKit Num Nds
structure DfI (S : World) (E0 E1 E2 E3 : Int) (j : Nat) (p q : Bool) (v9 v10 t0 t1 t2 t3 : Value) (W : World) : Prop where
 b : Below S.heap.size S W
 s9 : p = true → ∃ g, v9 = .pointer (some ⟨g, 0, none⟩) ∧ W.heap[g]? = some bw0.obj ∧ S.heap.size ≤ g
 s10 : q = true → ∃ g, v10 = .pointer (some ⟨g, 0, none⟩) ∧ W.heap[g]? = some bw0.obj ∧ S.heap.size ≤ g
 ne : p = true → q = true → ¬ v9 = v10
 c0 : 1 ≤ j → ∃ u : Bw, t0 = u.val ∧ u.R W E0
 c1 : 2 ≤ j → ∃ u : Bw, t1 = u.val ∧ u.R W E1
 c2 : 3 ≤ j → ∃ u : Bw, t2 = u.val ∧ u.R W E2
 c3 : 4 ≤ j → ∃ u : Bw, t3 = u.val ∧ u.R W E3
section
variable {S W W' : World} {E0 E1 E2 E3 : Int} {j : Nat} {p q : Bool} {v9 v10 t0 t1 t2 t3 : Value}
theorem bw_step {t : Value} {E : Int} (h : ∃ u : Bw, t = u.val ∧ u.R W E) (k : Below W.heap.size W W') : ∃ u : Bw, t = u.val ∧ u.R W' E := by
 obtain ⟨u, h1, h2⟩ := h
 exact ⟨u, h1, h2.next k⟩
theorem ptr_step {v : Value} {B : Nat} (h : ∃ g, v = .pointer (some ⟨g, 0, none⟩) ∧ W.heap[g]? = some bw0.obj ∧ B ≤ g) (k : Below W.heap.size W W') : ∃ g, v = .pointer (some ⟨g, 0, none⟩) ∧ W'.heap[g]? = some bw0.obj ∧ B ≤ g := by
 obtain ⟨g, h1, h2, h3⟩ := h
 exact ⟨g, h1, (k.block _ (Array.getElem?_eq_some_iff.1 h2).1).trans h2, h3⟩
theorem DfI.start (S : World) (E0 E1 E2 E3 : Int) (v9 v10 t0 t1 t2 t3 : Value) : DfI S E0 E1 E2 E3 0 false false v9 v10 t0 t1 t2 t3 S :=
 ⟨Below.refl _ _, fun e => (by cases e), fun e => (by cases e), fun e => (by cases e), fun e => absurd e (by omega), fun e => absurd e (by omega), fun e => absurd e (by omega), fun e => absurd e (by omega)⟩
theorem DfI.next (h : DfI S E0 E1 E2 E3 j p q v9 v10 t0 t1 t2 t3 W) (k : Below W.heap.size W W') : DfI S E0 E1 E2 E3 j p q v9 v10 t0 t1 t2 t3 W' :=
 ⟨h.b.trans (k.mono h.b.size), fun e => ptr_step (h.s9 e) k, fun e => ptr_step (h.s10 e) k, h.ne, fun e => bw_step (h.c0 e) k, fun e => bw_step (h.c1 e) k, fun e => bw_step (h.c2 e) k, fun e => bw_step (h.c3 e) k⟩
theorem DfI.call0 (h : DfI S E0 E1 E2 E3 0 p q v9 v10 t0 t1 t2 t3 W) {u : Bw} (hu : u.R W' E0) (k : Below W.heap.size W W') : DfI S E0 E1 E2 E3 1 p q v9 v10 u.val t1 t2 t3 W' :=
 have n := h.next k
 ⟨n.b, n.s9, n.s10, n.ne, fun _ => ⟨u, rfl, hu⟩, fun e => absurd e (by omega), fun e => absurd e (by omega), fun e => absurd e (by omega)⟩
theorem DfI.call1 (h : DfI S E0 E1 E2 E3 1 p q v9 v10 t0 t1 t2 t3 W) {u : Bw} (hu : u.R W' E1) (k : Below W.heap.size W W') : DfI S E0 E1 E2 E3 2 p q v9 v10 t0 u.val t2 t3 W' :=
 have n := h.next k
 ⟨n.b, n.s9, n.s10, n.ne, fun _ => n.c0 (by omega), fun _ => ⟨u, rfl, hu⟩, fun e => absurd e (by omega), fun e => absurd e (by omega)⟩
theorem DfI.call2 (h : DfI S E0 E1 E2 E3 2 p q v9 v10 t0 t1 t2 t3 W) {u : Bw} (hu : u.R W' E2) (k : Below W.heap.size W W') : DfI S E0 E1 E2 E3 3 p q v9 v10 t0 t1 u.val t3 W' :=
 have n := h.next k
 ⟨n.b, n.s9, n.s10, n.ne, fun _ => n.c0 (by omega), fun _ => n.c1 (by omega), fun _ => ⟨u, rfl, hu⟩, fun e => absurd e (by omega)⟩
theorem DfI.call3 (h : DfI S E0 E1 E2 E3 3 p q v9 v10 t0 t1 t2 t3 W) {u : Bw} (hu : u.R W' E3) (k : Below W.heap.size W W') : DfI S E0 E1 E2 E3 4 p q v9 v10 t0 t1 t2 u.val W' :=
 have n := h.next k
 ⟨n.b, n.s9, n.s10, n.ne, fun _ => n.c0 (by omega), fun _ => n.c1 (by omega), fun _ => n.c2 (by omega), fun _ => ⟨u, rfl, hu⟩⟩
theorem DfI.allocP (h : DfI S E0 E1 E2 E3 j false q v9 v10 t0 t1 t2 t3 W) : DfI S E0 E1 E2 E3 j true q (.pointer (some ⟨W.heap.size, 0, none⟩)) v10 t0 t1 t2 t3 (W.alloc bw0.obj) :=
 have n := h.next ((Below.refl W.heap.size W).alloc (Nat.le_refl _) bw0.obj)
 ⟨n.b, fun _ => ⟨_, rfl, heap_alloc_new W _, h.b.size⟩, n.s10, fun _ eq e => by
  obtain ⟨g, h1, h2, -⟩ := h.s10 eq
  rw [← e] at h1
  injection h1 with h1
  injection h1 with h1
  injection h1 with h1
  have h3 := (Array.getElem?_eq_some_iff.1 h2).1
  omega, n.c0, n.c1, n.c2, n.c3⟩
theorem DfI.allocQ (h : DfI S E0 E1 E2 E3 j p false v9 v10 t0 t1 t2 t3 W) : DfI S E0 E1 E2 E3 j p true v9 (.pointer (some ⟨W.heap.size, 0, none⟩)) t0 t1 t2 t3 (W.alloc bw0.obj) :=
 have n := h.next ((Below.refl W.heap.size W).alloc (Nat.le_refl _) bw0.obj)
 ⟨n.b, n.s9, fun _ => ⟨_, rfl, heap_alloc_new W _, h.b.size⟩, fun ep _ e => by
  obtain ⟨g, h1, h2, -⟩ := h.s9 ep
  rw [e] at h1
  injection h1 with h1
  injection h1 with h1
  injection h1 with h1
  have h3 := (Array.getElem?_eq_some_iff.1 h2).1
  omega, n.c0, n.c1, n.c2, n.c3⟩
end
def put1 (W : World) (g : Nat) (u : Bw) : World := (W.setCell ⟨g, 0, none⟩ (.bool u.s)).setCell ⟨g, 1, none⟩ (.slice u.a u.xs.length u.c)
theorem put1_far {W : World} {g k : Nat} (hk : k ≠ g) (u : Bw) : (put1 W g u).heap[k]? = W.heap[k]? := (Below.heap_setCell _ _ _ _ hk).trans (Below.heap_setCell _ _ _ _ hk)
theorem below_put1 {B : Nat} {w W : World} (h : Below B w W) {g : Nat} (hg : B ≤ g) (u : Bw) : Below B w (put1 W g u) := (h.setCell (p := ⟨g, 0, none⟩) hg _).setCell (p := ⟨g, 1, none⟩) hg _
def DfC (S : World) (X Y : Int) (s9 s10 : Value) (W : World) : Prop :=
 ∃ (g9 g10 : Nat) (u v : Bw), s9 = .pointer (some ⟨g9, 0, none⟩) ∧ s10 = .pointer (some ⟨g10, 0, none⟩) ∧ u.B W g9 X ∧ v.B W g10 Y ∧ Below S.heap.size S W ∧ g9 ≠ g10 ∧ S.heap.size ≤ g9 ∧ S.heap.size ≤ g10
theorem df_last {S W : World} {X Y : Int} {v9 v10 ta tb : Value} (hb : Below S.heap.size S W) (h9 : ∃ g, v9 = .pointer (some ⟨g, 0, none⟩) ∧ W.heap[g]? = some bw0.obj ∧ S.heap.size ≤ g) (h10 : ∃ g, v10 = .pointer (some ⟨g, 0, none⟩) ∧ W.heap[g]? = some bw0.obj ∧ S.heap.size ≤ g) (hne : ¬ v9 = v10) (ha : ∃ u : Bw, ta = u.val ∧ u.R W X) (hv : ∃ u : Bw, tb = u.val ∧ u.R W Y) :
  ∃ (g9 g10 : Nat) (u v : Bw), v9 = .pointer (some ⟨g9, 0, none⟩) ∧ v10 = .pointer (some ⟨g10, 0, none⟩) ∧ ta = u.val ∧ tb = v.val ∧ W.heap[g9]? = some bw0.obj ∧ (put1 W g9 u).heap[g10]? = some bw0.obj ∧ S.heap.size ≤ g9 ∧ S.heap.size ≤ g10 ∧ DfC S X Y v9 v10 (put1 (put1 W g9 u) g10 v) := by
 obtain ⟨g9, rfl, k1, k2⟩ := h9
 obtain ⟨g10, rfl, k3, k4⟩ := h10
 obtain ⟨u, rfl, ru⟩ := ha
 obtain ⟨v, rfl, rv⟩ := hv
 have hg : g9 ≠ g10 := fun e => hne (by rw [e])
 have k5 : (put1 W g9 u).heap[g10]? = some bw0.obj := (put1_far (fun e => hg e.symm) u).trans k3
 refine ⟨g9, g10, u, v, rfl, rfl, rfl, rfl, k1, k5, k2, k4, g9, g10, u, v, rfl, rfl, ?_, ?_, below_put1 (below_put1 hb k2 u) k4 v, hg, k2, k4⟩
 ·
  exact (ru.set (o := bw0) k1).other k5 hg v
 ·
  exact (rv.stored (o := bw0) k1 u).set (o := bw0) k5
end Go.Proofs.Ytlnmcilcifbcnaa
