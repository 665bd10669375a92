/-
  look: the cells of a quad set one by one, and taken away one by one, on lists.
  look: LookAll, the walk.
-/
import Derived.Test.YtdmkiioimmmlbaaGLkAl
import Derived.Test.YtdmkiioimmmlbaaGLkWc
import Derived.Test.YtdmkiioimmmlbaaGLkWo
import Derived.Test.YtdmkiioimmmlbaaLay0

namespace Go.Proofs.Ytdmkiioimmmlbaa
set_option maxRecDepth 100000
set_option linter.unusedVariables false
set_option linter.unusedSimpArgs false
open Go.RowKit Num Nds
theorem qs_in {q : List Nd} (hq : QS q) {X Y : Int} (hne : getQ q X Y ≠ 0) : inR X ∧ inR Y := by
 refine (inR_iff rfl).1 ?_
 refine Nat.le_of_not_lt fun h9 => hne (getQ_out hq.1 ?_)
 have := (level_most hq.1).2
 omega
theorem lk_snoc : ∀ (l : List Cl) (c : Cl) (x y : Int), (∀ d ∈ l, ¬ (d.x = c.x ∧ d.y = c.y)) → lk (l ++ [c]) x y = if x = c.x ∧ y = c.y then c.s else lk l x y
 | [], c, x, y, _ => by
  show (if c.x = x ∧ c.y = y then c.s else lk [] x y) = _
  by_cases h : x = c.x ∧ y = c.y
  ·
   rw [if_pos h, if_pos ⟨h.1.symm, h.2.symm⟩]
  ·
   rw [if_neg h, if_neg fun e => h ⟨e.1.symm, e.2.symm⟩]
 | d :: l, c, x, y, hd => by
  show (if d.x = x ∧ d.y = y then d.s else lk (l ++ [c]) x y) = if x = c.x ∧ y = c.y then c.s else (if d.x = x ∧ d.y = y then d.s else lk l x y)
  rw [lk_snoc l c x y fun e he => hd e (List.mem_cons_of_mem _ he)]
  by_cases h : x = c.x ∧ y = c.y
  ·
   rw [if_pos h, if_pos h, if_neg fun e => hd d (List.mem_cons_self ..) ⟨e.1.trans h.1, e.2.trans h.2⟩]
  ·
   rw [if_neg h, if_neg h]
theorem up_set {M : List Cl} (hM : Srt M) {i : Nat} {c : Cl} (hi : i < M.length) (hc : c = M[i]) {q p : List Nd} (hq : QuadOf (M.take i) q) (hp : SetOf q c.x c.y c.s p) : QuadOf (M.take (i + 1)) p := by
 have h2 : M.take (i + 1) = M.take i ++ [c] := by rw [hc]; exact (List.take_append_getElem (l := M) (i := i) hi).symm
 have h1 : Srt (M.take (i + 1)) := List.Pairwise.sublist (List.take_sublist _ _) hM
 rw [h2] at h1 ⊢
 refine quadOf_qs hp.1 fun x y => ?_
 rw [hp.2, lk_snoc _ _ _ _ fun d hd => ltC_ne ((List.pairwise_append.1 h1).2.2 d hd c (by simp)), hq.den]
theorem down_set {M : List Cl} (hM : Srt M) {i : Nat} {c : Cl} (hi : i < M.length) (hc : c = M[i]) {q p : List Nd} (hq : QuadOf (M.drop i) q) (hp : SetOf q c.x c.y 0 p) : QuadOf (M.drop (i + 1)) p := by
 have h1 : Srt (M.drop i) := List.Pairwise.sublist (List.drop_sublist _ _) hM
 have h2 : M.drop i = c :: M.drop (i + 1) := by rw [hc]; exact List.drop_eq_getElem_cons hi
 rw [h2] at h1 hq
 refine quadOf_qs hp.1 fun x y => ?_
 rw [hp.2, hq.den]
 by_cases h : x = c.x ∧ y = c.y
 ·
  rw [if_pos h, lk_none fun d hd e => ltC_ne ((srt_cons h1).1 d hd) ⟨(e.1.trans h.1).symm, (e.2.trans h.2).symm⟩]
 ·
  rw [if_neg h]
  show (if c.x = x ∧ c.y = y then c.s else lk (M.drop (i + 1)) x y) = _
  rw [if_neg fun e => h ⟨e.1.symm, e.2.symm⟩]
theorem cut_len {M N : List Cl} (hM : Srt M) (h0 : ∀ c ∈ M, c.s ≠ 0) (hN : N.Sublist M) {q : List Nd} (h : QuadOf N q) : q.length ≤ 1329 * N.length := by
 have h1 : lastF N = N := lastF_self (List.Pairwise.sublist hN hM) fun c hc => h0 c (hN.subset hc)
 have h2 := (show QuadOf (lastF N) q by rw [h1]; exact h).lenF.2
 rwa [h1] at h2
theorem quadOf_nil : QuadOf [] [] := quadOf_qs qs_nil fun x y => rfl
theorem quadOf_no {q : List Nd} (h : QuadOf [] q) : q = [] := quadOf_one h quadOf_nil fun _ _ => rfl
structure Way (out : List Cv) (q : List Nd) : Prop where
 quad : QuadOf (out.map Cv.cl) q
 srt : Srt (out.map Cv.cl)
 nz : ∀ c ∈ out.map Cv.cl, c.s ≠ 0
 few : out.length ≤ 20
 right : ∀ u ∈ out, CanonI u.sx u.xs ∧ CanonI u.sy u.ys
 short : ∀ u ∈ out, u.xs.length ≤ 50 ∧ u.ys.length ≤ 50
theorem Way.of {l out : List Cv} {q : List Nd} (hm : mayB l 20 = true) (hq : QuadOf (lastF (l.map Cv.cl)) q) (h1 : out.map Cv.cl = lastF (l.map Cv.cl)) (h2 : ∀ u ∈ out, u ∈ l) : Way out q :=
 ⟨by rw [h1]; exact hq, by rw [h1]; exact lastF_srt _, by rw [h1]; exact fun c hc => ((lastF_spec _).2.2 c hc).1,
  by
  have h3 := congrArg List.length h1
  have h4 := lastF_le (l.map Cv.cl)
  have h5 := (may_R hm).1
  rw [List.length_map] at h3 h4
  omega,
  fun u hu => ⟨((may_R hm).2 u (h2 u hu)).1, ((may_R hm).2 u (h2 u hu)).2.1⟩,
  fun u hu => (great_lens (may_iff.1 hm).1).2 u (h2 u hu)⟩
theorem Way.at_ {out : List Cv} {i : Nat} (hi : i < out.length) : (cat out i).cl = (out.map Cv.cl)[i]'(by rw [List.length_map]; exact hi) := by
 rw [List.getElem_map, cat_get hi]
theorem Way.inr {out : List Cv} {want : List Nd} (h : Way out want) {i : Nat} (hi : i < out.length) : inR (ival (cat out i).sx (cat out i).xs) ∧ inR (ival (cat out i).sy (cat out i).ys) := by
 refine qs_in (qs_quadOf h.quad) ?_
 have h1 : (cat out i).cl ∈ out.map Cv.cl := List.mem_map_of_mem (cat_mem hi)
 have h2 := lk_mem h.srt h1
 have h3 := h.nz _ h1
 unfold getQ
 rw [h.quad.den]
 exact fun e => h3 (h2.symm.trans e)
theorem Way.up {out : List Cv} {want : List Nd} (h : Way out want) {i : Nat} (hi : i < out.length) {q p : List Nd} (hq : QuadOf ((out.map Cv.cl).take i) q) (hp : SetOf q (ival (cat out i).sx (cat out i).xs) (ival (cat out i).sy (cat out i).ys) ((cat out i).st : Int) p) : QuadOf ((out.map Cv.cl).take (i + 1)) p :=
 up_set h.srt (c := (cat out i).cl) (by rw [List.length_map]; exact hi) (Way.at_ hi) hq hp
theorem Way.down {out : List Cv} {want : List Nd} (h : Way out want) {i : Nat} (hi : i < out.length) {q p : List Nd} (hq : QuadOf ((out.map Cv.cl).drop i) q) (hp : SetOf q (ival (cat out i).sx (cat out i).xs) (ival (cat out i).sy (cat out i).ys) 0 p) : QuadOf ((out.map Cv.cl).drop (i + 1)) p :=
 down_set h.srt (c := (cat out i).cl) (by rw [List.length_map]; exact hi) (Way.at_ hi) hq hp
theorem Way.lenU {out : List Cv} {want : List Nd} (h : Way out want) {i : Nat} {q : List Nd} (hq : QuadOf ((out.map Cv.cl).take i) q) : q.length ≤ 30000 := by
 have h1 := cut_len h.srt h.nz (List.take_sublist _ _) hq
 have h2 := h.few
 have h3 : ((out.map Cv.cl).take i).length ≤ out.length := by rw [List.length_take, List.length_map]; omega
 omega
theorem Way.lenD {out : List Cv} {want : List Nd} (h : Way out want) {i : Nat} {q : List Nd} (hq : QuadOf ((out.map Cv.cl).drop i) q) : q.length ≤ 30000 := by
 have h1 := cut_len h.srt h.nz (List.drop_sublist _ _) hq
 have h2 := h.few
 have h3 : ((out.map Cv.cl).drop i).length ≤ out.length := by rw [List.length_drop, List.length_map]; omega
 omega
theorem Way.all {out : List Cv} {want q : List Nd} (h : Way out want) (hq : QuadOf ((out.map Cv.cl).take out.length) q) : q = want := by
 rw [List.take_of_length_le (by rw [List.length_map]; exact Nat.le_refl _)] at hq
 exact quadOf_one hq h.quad fun _ _ => rfl
theorem Way.none {out : List Cv} {q : List Nd} (hq : QuadOf ((out.map Cv.cl).drop out.length) q) : q = [] := by
 rw [List.drop_of_length_le (by rw [List.length_map]; exact Nat.le_refl _)] at hq
 exact quadOf_no hq
end Go.Proofs.Ytdmkiioimmmlbaa

namespace Go.Proofs.Ytdmkiioimmmlbaa
set_option maxRecDepth 100000
set_option linter.unusedVariables false
set_option linter.unusedSimpArgs false
open Go.RowKit Num Nds
structure LaJ (w W : World) (A : Option Addr) (c n : Nat) (q : List Nd) : Prop where
 b : Below w.heap.size w W
 bx : W.heap[w.heap.size]? = some (.cells #[.slice A n c] 31)
 ns : Ns W A c q
 az : A = none → c = 0
 ln : q.length = n
theorem LaJ.start (w : World) : LaJ w (w.alloc (.cells #[.slice none 0 0] 31)) none 0 0 [] :=
 ⟨(Below.refl _ w).alloc (Nat.le_refl _) _, heap_alloc_new w _, ns_nil _, fun _ => rfl, rfl⟩
theorem LaJ.step {w W V : World} {A : Option Addr} {c n : Nat} {q : List Nd} (J : LaJ w W A c n q) (h : Below W.heap.size W V) : LaJ w V A c n q :=
 ⟨J.b.trans (h.mono J.b.size), (h.block _ (heapLt J.bx)).trans J.bx, J.ns.below h, J.az, J.ln⟩
theorem LaJ.put {w W : World} {A A2 : Option Addr} {c n c2 n2 : Nat} {q p : List Nd} (J : LaJ w W A c n q) (h : Ns W A2 c2 p) (h2 : A2 = none → c2 = 0) (h3 : p.length = n2) : LaJ w (W.setCell ⟨w.heap.size, 0, none⟩ (.slice A2 n2 c2)) A2 c2 n2 p :=
 ⟨J.b.setCell (p := ⟨w.heap.size, 0, none⟩) (Nat.le_refl _) _, heap_setCell_same W w.heap.size 0 _ _ _ J.bx, ns_boxed h J.bx, h2, h3⟩
theorem cs_cell {w : World} {b off co : Nat} {l : List Cv} (h : Cs w (some ⟨b, off, none⟩) co l) {i : Nat} (hi : i < l.length) : CvAt w b (off + i * 5) (cat l i) := by
 obtain ⟨b', o, e, -, hc⟩ := h.at_ (by omega)
 cases e
 exact hc i hi
theorem LaJ.cells {w W : World} {A : Option Addr} {c n b off co i : Nat} {q : List Nd} {out : List Cv} {u : Cv} (J : LaJ w W A c n q) (h : Cs w (some ⟨b, off, none⟩) co out) (hi : i < out.length) (hu : u = cat out i) :
  W.cell? ⟨w.heap.size, 0, none⟩ = some (.slice A n c) ∧ W.cell? ⟨b, off + i * 5, none⟩ = some (.bool u.sx) ∧ W.cell? ⟨b, off + i * 5 + 1, none⟩ = some (.slice u.ax u.xs.length u.cx) ∧ W.cell? ⟨b, off + i * 5 + 2, none⟩ = some (.bool u.sy) ∧ W.cell? ⟨b, off + i * 5 + 3, none⟩ = some (.slice u.ay u.ys.length u.cy) ∧ W.cell? ⟨b, off + i * 5 + 4, none⟩ = some (.int .u8 u.st) := by
 subst hu
 exact ⟨one_cell J.bx, cs_cell (h.below J.b) hi⟩
theorem LaJ.uu {w W : World} {A B : Option Addr} {c n co i : Nat} {q : List Nd} {out : List Cv} {u : Cv} {want : List Nd} (J : LaJ w W A c n q) (h : Cs w B co out) (hw : Way out want) (hi : i < out.length) (hu : u = cat out i) : CvU W u ∧ (u.bx.R W (ival u.sx u.xs) ∧ u.by_.R W (ival u.sy u.ys)) := by
 subst hu
 have h1 := (h.below J.b).1 _ (cat_mem hi)
 have h2 := hw.right _ (cat_mem hi)
 exact ⟨h1, cv_r h1 h2.1 h2.2⟩
set_option maxRecDepth 100000 in
set_option maxHeartbeats 6400000 in
theorem lall_may
  (A : Option Addr) (c n : Nat) (l : List Cv) (w : World) (h : Cs w A c l) (hn : l.length = n) (hm : mayB l 20 = false) :
  Calls Try.prog 6 #[.slice A n c] w fun e w' => e = .returned (.bool true) ∧ Below w.heap.size w w' := by
 have hcap := h.cap
 rw [hn] at hcap
 have HCS := Lib.hid h
 have HL := Lib.hid hn
 have HM := Lib.hid hm
 have q0 : True := trivial
 clear h hn hm
 go_enter Try.func6, Try.ntmps6
 go_wp2_with (first
   | (have _t := q0; go_at_call 10; clear _t; go_loud (refine (alive8_any _).mono ?_; rintro e w1 ⟨rfl, b1⟩; have H1 := Lib.hid ((Al.start w).step b1); clear b1; have q1 := q0; clear q0))
   | (have _t := q1; go_at_call 11; clear _t; go_loud (refine (rquad_any A c n 20 l _ (HCS.out.below H1.out.sn.1) HL.out (by omega)).mono ?_; rintro e w2 ⟨A5, c5, qn, want, ok, rfl, l5, n5, a5, b5, hok, -, hqo⟩; rw [HM.out] at hok; subst hok; have hc5 := n5.cap; rw [l5] at hc5; have H2 := Lib.hid (((H1.out.step b5).addN n5).addB (.slice A5 qn c5)); have f5 := H2.out.getB (g := w2.heap.size) (v := .slice A5 qn c5) (by simp); clear n5 a5 b5 l5 hqo; have q2 := q1; clear q1)))
 go_ret
 exact ⟨rfl, H2.out.sn.1⟩
set_option maxRecDepth 100000 in
set_option maxHeartbeats 6400000 in
theorem lall_main
  (A : Option Addr) (c n : Nat) (l : List Cv) (w : World) (h : Cs w A c l) (hn : l.length = n) (hm : mayB l 20 = true) :
  Calls Try.prog 6 #[.slice A n c] w fun e w' => e = .returned (.bool true) ∧ Below w.heap.size w w' := by
 have hcap := h.cap
 rw [hn] at hcap
 have HCS := Lib.hid h
 have HL := Lib.hid hn
 have HM := Lib.hid hm
 have hn20 := (may_R hm).1
 rw [hn] at hn20
 have q0 : True := trivial
 clear h hn hm
 go_enter Try.func6, Try.ntmps6
 go_wp2_with (first
   | (have _t := q0; go_at_call 10; clear _t; go_loud (refine (alive8_any _).mono ?_; rintro e w1 ⟨rfl, b1⟩; have H1 := Lib.hid ((Al.start w).step b1); clear b1; have q1 := q0; clear q0))
   | (have _t := q1; go_at_call 11; clear _t; go_loud (refine (rquad_any A c n 20 l _ (HCS.out.below H1.out.sn.1) HL.out (by omega)).mono ?_; rintro e w2 ⟨A5, c5, qn, want, ok, rfl, l5, n5, a5, b5, hok, -, hqo⟩; rw [HM.out] at hok; subst hok; have hc5 := n5.cap; rw [l5] at hc5; have H2 := Lib.hid (((H1.out.step b5).addN n5).addB (.slice A5 qn c5)); have HQN := Lib.hid l5; have HQO := Lib.hid (hqo (by first | rfl | trivial)); have f5 := H2.out.getB (g := w2.heap.size) (v := .slice A5 qn c5) (by simp); clear n5 a5 b5 l5 hqo; have q2 := q1; clear q1))
   | (have _t := q2; go_at_call 23; clear _t; go_loud (refine (rclast_any A c n l _ (HCS.out.below H2.out.sn.1) HL.out (may_R HM.out).2 (by omega)).mono ?_; rintro e w3 ⟨v3, out, rfl, ml3, in3, o3, b3⟩; have HC3 := Lib.hid ((HCS.out.below H2.out.sn.1).below b3); obtain ⟨A3, c3, hv3, cs3, -, -⟩ := o3.cs (fun u hu => HC3.out.1 u (in3 u hu)); obtain ⟨k, hk⟩ : ∃ k, out.length = k := ⟨_, rfl⟩; rw [hk] at hv3; subst hv3; have cp3 := cs3.cap; rw [hk] at cp3; have CS := Lib.hid cs3; have HK := Lib.hid hk; have HW := Lib.hid (Way.of HM.out HQO.out ml3 in3); have H3 := Lib.hid (H2.out.step b3); clear ml3 in3 o3 b3 cs3 hk f5; have q3 := q2; clear q2)))
 go_loopw [7, 8, 9] (fun z1 z2 z3 wr => ∃ (i : Nat) (Aq : Option Addr) (cq nq : Nat) (q : List Nd) (u2 u3 : Value), i ≤ k ∧ z1 = .int .i64 i ∧ z2 = u2 ∧ z3 = u3 ∧ LaJ w3 wr Aq cq nq q ∧ QuadOf ((out.map Cv.cl).take i) q) (fun z1 _ _ _ => k - (intOf z1).toNat)
 case atStart => exact ⟨0, none, 0, 0, [], _, _, by omega, rfl, rfl, rfl, LaJ.start _, by rw [List.take_zero]; exact quadOf_nil⟩
 case round =>
  obtain ⟨i, Aq, cq, nq, q, u2, u3, hi, rfl, rfl, rfl, hj, hq⟩ := hrel
  have HJ := Lib.hid hj
  have HQ := Lib.hid hq
  clear hj hq
  by_cases hlt : i < k
  ·
   have t1 : decide ((i : Int) < (k : Int)) = true := decide_eq_true (by omega)
   have i1 : (0 : Int) ≤ (i : Int) := by omega
   have i2 : (i : Int) < (k : Int) := by omega
   have HIL := Lib.hid (show i < out.length by rw [HK.out]; exact hlt)
   have hcq := HJ.out.ns.cap
   rw [HJ.out.ln] at hcq
   have hlen := HW.out.lenU HQ.out
   rw [HJ.out.ln] at hlen
   have HQS := Lib.hid (qs_quadOf HQ.out)
   obtain ⟨b, off, rfl, -, -⟩ := CS.out.at_ (by rw [HK.out]; omega)
   obtain ⟨u, hu⟩ : ∃ u, u = cat out i := ⟨_, rfl⟩
   have HU := Lib.hid hu
   have hi5 := HW.out.inr HIL.out
   have hs5 := HW.out.short _ (cat_mem HIL.out)
   rw [← hu] at hi5 hs5
   have HIN := Lib.hid hi5
   obtain ⟨hx5, hy5⟩ := hs5
   obtain ⟨f1, f2, f3, f4, f5, f6⟩ := HJ.out.cells CS.out HIL.out HU.out
   have hst := (HJ.out.uu CS.out HW.out HIL.out HU.out).1.2.2
   have hv1 := (HJ.out.uu CS.out HW.out HIL.out HU.out).1.1.cap
   have hv2 := (HJ.out.uu CS.out HW.out HIL.out HU.out).1.2.1.cap
   have SD := Lib.hid (HJ.out.step (Below.drew' (Below.refl _ wr)))
   clear hu hi5
   go_upto_region 11 with (fail)
   go_cut [8, 9] from 24 to 57 (fun z1 z2 wx => ∃ (gb pn cb : Nat) (Ab : Option Addr) (p : List Nd), z1 = .pointer (some ⟨gb, 0, none⟩) ∧ z2 = .int .i64 0 ∧ LaJ w3 wx Aq cq nq q ∧ wx.heap[gb]? = some (.cells #[.slice Ab pn cb] 31) ∧ Ns wx Ab cb p ∧ (Ab = none → cb = 0) ∧ p.length = pn ∧ SetOf q (ival u.sx u.xs) (ival u.sy u.ys) (u.st : Int) p)
   case first =>
    refine wp_region_noPanic ?_
    refine wp_region_held (S := fun w' => w'.cell? ⟨w3.heap.size, 0, none⟩ = some (.slice Aq nq cq) ∧ w'.cell? ⟨b, off + i * 5, none⟩ = some (.bool u.sx) ∧ w'.cell? ⟨b, off + i * 5 + 1, none⟩ = some (.slice u.ax u.xs.length u.cx) ∧ w'.cell? ⟨b, off + i * 5 + 2, none⟩ = some (.bool u.sy) ∧ w'.cell? ⟨b, off + i * 5 + 3, none⟩ = some (.slice u.ay u.ys.length u.cy) ∧ w'.cell? ⟨b, off + i * 5 + 4, none⟩ = some (.int .u8 u.st)) (by kernel_rfl) ?_
    obtain ⟨W0, hW0⟩ : ∃ W0 : World, W0 = wr.drew := ⟨_, rfl⟩
    rw [← hW0] at SD
    change wpAnyH _ _ _ _ _ _ _ _ wr.drew
    rw [← hW0]
    clear hW0 f1 f2 f3 f4 f5 f6
    have B0 := Lib.hid (Below.refl W0.heap.size W0)
    have hS0 := (SD.out.cells CS.out HIL.out HU.out)
    refine wpAnyH_take (i := 0) (v := ?_) rfl (by kernel_rfl) (by kernel_rfl) (by kernel_rfl) (fun _ _ _ h => h) (Or.inl ⟨by rfl, ?_⟩) hS0 ?_
    rotate_left
    ·
     rintro w' ⟨s1, s2, s3, s4, s5, s6⟩
     go_simp
     first | done | with_reducible rfl | rfl
    simp only [Act.put, LA]
    refine wpAnyH_take (i := 1) (v := ?_) rfl (by kernel_rfl) (by kernel_rfl) (by kernel_rfl) (fun _ _ _ h => h) (Or.inl ⟨by rfl, ?_⟩) hS0 ?_
    rotate_left
    ·
     rintro w' ⟨s1, s2, s3, s4, s5, s6⟩
     go_simp
     first | done | with_reducible rfl | rfl
    simp only [Act.put, LA]
    refine wpAnyH_take (i := 2) (v := ?_) rfl (by kernel_rfl) (by kernel_rfl) (by kernel_rfl) (fun _ _ _ h => h) (Or.inl ⟨by rfl, ?_⟩) hS0 ?_
    rotate_left
    ·
     rintro w' ⟨s1, s2, s3, s4, s5, s6⟩
     go_simp
     first | done | with_reducible rfl | rfl
    simp only [Act.put, LA]
    refine wpAnyH_take (i := 3) (v := ?_) rfl (by kernel_rfl) (by kernel_rfl) (by kernel_rfl) (fun _ _ _ h => h) (Or.inl ⟨by rfl, ?_⟩) hS0 ?_
    rotate_left
    ·
     rintro w' ⟨s1, s2, s3, s4, s5, s6⟩
     go_simp
     first | done | with_reducible rfl | rfl
    simp only [Act.put, LA]
    refine wpAnyH_take (i := 4) (v := ?_) rfl (by kernel_rfl) (by kernel_rfl) (by kernel_rfl) (fun _ _ _ h => h) (Or.inl ⟨by rfl, ?_⟩) hS0 ?_
    rotate_left
    ·
     rintro w' ⟨s1, s2, s3, s4, s5, s6⟩
     go_simp
     first | done | with_reducible rfl | rfl
    simp only [Act.put, LA]
    refine wpAnyH_take (i := 5) (v := ?_) rfl (by kernel_rfl) (by kernel_rfl) (by kernel_rfl) (fun _ _ _ h => h) (Or.inl ⟨by rfl, ?_⟩) hS0 ?_
    rotate_left
    ·
     rintro w' ⟨s1, s2, s3, s4, s5, s6⟩
     go_simp
     first | done | with_reducible rfl | rfl
    simp only [Act.put, LA]
    refine wpAnyH_take (i := 6) (v := ?_) rfl (by kernel_rfl) (by kernel_rfl) (by kernel_rfl) (fun _ _ _ h => h) (Or.inl ⟨by rfl, ?_⟩) hS0 ?_
    rotate_left
    ·
     rintro w' ⟨s1, s2, s3, s4, s5, s6⟩
     go_simp
     first | done | with_reducible rfl | rfl
    simp only [Act.put, LA]
    refine wpAnyH_take (i := 7) (v := ?_) rfl (by kernel_rfl) (by kernel_rfl) (by kernel_rfl) (fun _ _ _ h => h) (Or.inl ⟨by rfl, ?_⟩) hS0 ?_
    rotate_left
    ·
     rintro w' ⟨s1, s2, s3, s4, s5, s6⟩
     go_simp
     first | done | with_reducible rfl | rfl
    simp only [Act.put, LA]
    refine wpAnyH_take (i := 8) (v := ?_) rfl (by kernel_rfl) (by kernel_rfl) (by kernel_rfl) (fun _ _ _ h => h) (Or.inl ⟨by rfl, ?_⟩) hS0 ?_
    rotate_left
    ·
     rintro w' ⟨s1, s2, s3, s4, s5, s6⟩
     go_simp
     first | done | with_reducible rfl | rfl
    simp only [Act.put, LA]
    refine wpAnyH_take (i := 9) (v := ?_) rfl (by kernel_rfl) (by kernel_rfl) (by kernel_rfl) (fun _ _ _ h => h) (Or.inl ⟨by rfl, ?_⟩) hS0 ?_
    rotate_left
    ·
     rintro w' ⟨s1, s2, s3, s4, s5, s6⟩
     go_simp
     first | done | with_reducible rfl | rfl
    simp only [Act.put, LA]
    refine wpAnyH_take (i := 10) (v := ?_) rfl (by kernel_rfl) (by kernel_rfl) (by kernel_rfl) (fun _ _ _ h => h) (Or.inl ⟨by rfl, ?_⟩) hS0 ?_
    rotate_left
    ·
     rintro w' ⟨s1, s2, s3, s4, s5, s6⟩
     go_simp
     first | done | with_reducible rfl | rfl
    simp only [Act.put, LA]
    refine wpAnyH_take (i := 11) (v := ?_) rfl (by kernel_rfl) (by kernel_rfl) (by kernel_rfl) (fun _ _ _ h => h) (Or.inl ⟨by rfl, ?_⟩) hS0 ?_
    rotate_left
    ·
     rintro w' ⟨s1, s2, s3, s4, s5, s6⟩
     go_simp
     first | done | with_reducible rfl | rfl
    simp only [Act.put, LA]
    refine wpAnyH_take (i := 12) (v := ?_) rfl (by kernel_rfl) (by kernel_rfl) (by kernel_rfl) (fun _ _ _ h => h) (Or.inl ⟨by rfl, ?_⟩) hS0 ?_
    rotate_left
    ·
     rintro w' ⟨s1, s2, s3, s4, s5, s6⟩
     go_simp
     first | done | with_reducible rfl | rfl
    simp only [Act.put, LA]
    refine wpAnyH_take (i := 13) (v := ?_) rfl (by kernel_rfl) (by kernel_rfl) (by kernel_rfl) (fun _ _ _ h => h) (Or.inl ⟨by rfl, ?_⟩) hS0 ?_
    rotate_left
    ·
     rintro w' ⟨s1, s2, s3, s4, s5, s6⟩
     go_simp
     first | done | with_reducible rfl | rfl
    simp only [Act.put, LA]
    refine wpAnyH_take (i := 14) (v := ?_) rfl (by kernel_rfl) (by kernel_rfl) (by kernel_rfl) (fun _ _ _ h => h) (Or.inl ⟨by rfl, ?_⟩) hS0 ?_
    rotate_left
    ·
     rintro w' ⟨s1, s2, s3, s4, s5, s6⟩
     go_simp
     first | done | with_reducible rfl | rfl
    simp only [Act.put, LA]
    refine wpAnyH_take (i := 15) (v := ?_) rfl (by kernel_rfl) (by kernel_rfl) (by kernel_rfl) (fun _ _ _ h => h) (Or.inl ⟨by rfl, ?_⟩) hS0 ?_
    rotate_left
    ·
     rintro w' ⟨s1, s2, s3, s4, s5, s6⟩
     go_simp
     first | done | with_reducible rfl | rfl
    simp only [Act.put, LA]
    refine wpAnyH_ready (rs := [16, 20]) (by kernel_rfl) (by simp) (AllReadyH.cons rfl (fun K hK => ?_) (AllReadyH.cons rfl (fun K hK => ?_) AllReadyH.nil))
    ·
     go_simp
     refine (set_bw Aq cq nq q u.bx u.by_ _ _ u.st _ (SD.out.step B0.out).ns SD.out.ln (by omega) SD.out.az HQS.out ((SD.out.step B0.out).uu CS.out HW.out HIL.out HU.out).2.1 ((SD.out.step B0.out).uu CS.out HW.out HIL.out HU.out).2.2 (by show u.xs.length ≤ _; omega) (by show u.ys.length ≤ _; omega) (by omega)).mono ?_
     rintro e W1 ⟨Ab, cb, p, er, rfl, nb, ab, b, lb, sb⟩
     obtain ⟨e1, sb2⟩ := sb.yes fun _ => HIN.out
     subst e1
     dsimp only
     obtain ⟨pn, hpn⟩ : ∃ pn, p.length = pn := ⟨_, rfl⟩
     rw [hpn]
     have hcb := nb.cap
     rw [hpn] at hcb
     have B1 := Lib.hid (B0.out.trans (b.mono B0.out.size))
     have N1 := Lib.hid nb
     have HPN := Lib.hid hpn
     have HAB := Lib.hid ab
     have HSB := Lib.hid (show SetOf q (ival u.sx u.xs) (ival u.sy u.ys) (u.st : Int) p from sb2)
     refine hK.out _ _ ((SD.out.step B1.out).cells CS.out HIL.out HU.out) (fun hS1 => ?_)
     clear hK K nb ab b lb sb sb2 hpn
     refine wpAnyH_take (i := 17) (v := ?_) rfl (by kernel_rfl) (by kernel_rfl) (by kernel_rfl) (fun _ _ _ h => h) (Or.inl ⟨by rfl, ?_⟩) hS1 ?_
     rotate_left
     ·
      rintro w' ⟨s1, s2, s3, s4, s5, s6⟩
      go_simp
      first | done | with_reducible rfl | rfl
     simp only [Act.put, LA]
     refine wpAnyH_take (i := 18) (v := ?_) rfl (by kernel_rfl) (by kernel_rfl) (by kernel_rfl) (fun _ _ _ h => h) (Or.inl ⟨by rfl, ?_⟩) hS1 ?_
     rotate_left
     ·
      rintro w' ⟨s1, s2, s3, s4, s5, s6⟩
      go_simp
      first | done | with_reducible rfl | rfl
     simp only [Act.put, LA]
     refine wpAnyH_take (i := 19) (v := ?_) rfl (by kernel_rfl) (by kernel_rfl) (by kernel_rfl) (fun _ _ _ h => h) (Or.inl ⟨by rfl, ?_⟩) hS1 ?_
     rotate_left
     ·
      rintro w' ⟨s1, s2, s3, s4, s5, s6⟩
      go_simp
      first | done | with_reducible rfl | rfl
     simp only [Act.put, LA]
     refine wpAnyH_ready (rs := [20]) (by kernel_rfl) (by simp) (AllReadyH.cons rfl (fun K hK => ?_) AllReadyH.nil)
     go_simp
     obtain ⟨gb, hg⟩ : ∃ g, g = W1.heap.size := ⟨_, rfl⟩
     obtain ⟨W2, hW⟩ : ∃ Z : World, Z = W1.alloc (.cells #[.slice none 0 0] 31) := ⟨_, rfl⟩
     have hbl := (Below.refl W1.heap.size W1).alloc (Nat.le_refl _) (.cells #[.slice none 0 0] 31)
     rw [← hW] at hbl
     have R2 := Lib.hid (show W2.heap[gb]? = some (.cells #[.slice none 0 0] 31) by rw [hW, hg]; exact heap_alloc_new W1 _)
     have GA := Lib.hid (show W0.heap.size ≤ gb by rw [hg]; exact B1.out.size)
     have B2 := Lib.hid (B1.out.trans (hbl.mono B1.out.size))
     have N2 := Lib.hid (N1.out.below hbl)
     rw [← hg, ← hW]
     refine hK.out _ _ ((SD.out.step B2.out).cells CS.out HIL.out HU.out) (fun _ => ?_)
     clear hK K hg hW hbl
     refine wpAnyH_ready (rs := [21]) (by kernel_rfl) (by simp) (AllReadyH.cons rfl (fun K hK => ?_) AllReadyH.nil)
     have z0 := one_cell R2.out
     have z1 := one_free R2.out
     go_simp
     have BF := Lib.hid (B2.out.setCell (p := ⟨gb, 0, none⟩) GA.out (.slice Ab pn cb))
     have hS9 := ((SD.out.step BF.out).cells CS.out HIL.out HU.out)
     refine hK.out _ _ hS9 (fun _ => ?_)
     clear hK K z0 z1
     refine wpAnyH_take (i := 22) (v := ?_) rfl (by kernel_rfl) (by kernel_rfl) (by kernel_rfl) (fun _ _ _ h => h) (Or.inl ⟨by rfl, ?_⟩) hS9 ?_
     rotate_left
     ·
      rintro w' ⟨s1, s2, s3, s4, s5, s6⟩
      go_simp
      first | done | with_reducible rfl | rfl
     simp only [Act.put, LA]
     refine wpAnyH_done (by kernel_rfl) ?_ _
     refine NoPanic.normal ?_
     go_wp2_with fail
     go_meet
     exact ⟨gb, pn, cb, Ab, p, rfl, rfl, SD.out.step BF.out, heap_setCell_same W2 gb 0 _ _ _ R2.out, ns_boxed N2.out R2.out, HAB.out, HPN.out, HSB.out⟩
    ·
     go_simp
     obtain ⟨gb, hg⟩ : ∃ g, g = W0.heap.size := ⟨_, rfl⟩
     obtain ⟨W1, hW⟩ : ∃ Z : World, Z = W0.alloc (.cells #[.slice none 0 0] 31) := ⟨_, rfl⟩
     have hbl := (Below.refl W0.heap.size W0).alloc (Nat.le_refl _) (.cells #[.slice none 0 0] 31)
     rw [← hW] at hbl
     have R1 := Lib.hid (show W1.heap[gb]? = some (.cells #[.slice none 0 0] 31) by rw [hW, hg]; exact heap_alloc_new W0 _)
     have GA := Lib.hid (show W0.heap.size ≤ gb by rw [hg]; exact B0.out.size)
     have B1 := Lib.hid (B0.out.trans (hbl.mono B0.out.size))
     rw [← hg, ← hW]
     refine hK.out _ _ ((SD.out.step B1.out).cells CS.out HIL.out HU.out) (fun _ => ?_)
     clear hK K hg hW hbl
     refine wpAnyH_ready (rs := [16]) (by kernel_rfl) (by simp) (AllReadyH.cons rfl (fun K hK => ?_) AllReadyH.nil)
     go_simp
     refine (set_bw Aq cq nq q u.bx u.by_ _ _ u.st _ (SD.out.step B1.out).ns SD.out.ln (by omega) SD.out.az HQS.out ((SD.out.step B1.out).uu CS.out HW.out HIL.out HU.out).2.1 ((SD.out.step B1.out).uu CS.out HW.out HIL.out HU.out).2.2 (by show u.xs.length ≤ _; omega) (by show u.ys.length ≤ _; omega) (by omega)).mono ?_
     rintro e W2 ⟨Ab, cb, p, er, rfl, nb, ab, b, lb, sb⟩
     obtain ⟨e1, sb2⟩ := sb.yes fun _ => HIN.out
     subst e1
     dsimp only
     obtain ⟨pn, hpn⟩ : ∃ pn, p.length = pn := ⟨_, rfl⟩
     rw [hpn]
     have hcb := nb.cap
     rw [hpn] at hcb
     have B2 := Lib.hid (B1.out.trans (b.mono B1.out.size))
     have N2 := Lib.hid nb
     have HPN := Lib.hid hpn
     have HAB := Lib.hid ab
     have HSB := Lib.hid (show SetOf q (ival u.sx u.xs) (ival u.sy u.ys) (u.st : Int) p from sb2)
     have R2 := Lib.hid ((b.block gb (heapLt R1.out)).trans R1.out)
     refine hK.out _ _ ((SD.out.step B2.out).cells CS.out HIL.out HU.out) (fun hS2 => ?_)
     clear hK K nb ab b lb sb sb2 hpn
     refine wpAnyH_take (i := 17) (v := ?_) rfl (by kernel_rfl) (by kernel_rfl) (by kernel_rfl) (fun _ _ _ h => h) (Or.inl ⟨by rfl, ?_⟩) hS2 ?_
     rotate_left
     ·
      rintro w' ⟨s1, s2, s3, s4, s5, s6⟩
      go_simp
      first | done | with_reducible rfl | rfl
     simp only [Act.put, LA]
     refine wpAnyH_take (i := 18) (v := ?_) rfl (by kernel_rfl) (by kernel_rfl) (by kernel_rfl) (fun _ _ _ h => h) (Or.inl ⟨by rfl, ?_⟩) hS2 ?_
     rotate_left
     ·
      rintro w' ⟨s1, s2, s3, s4, s5, s6⟩
      go_simp
      first | done | with_reducible rfl | rfl
     simp only [Act.put, LA]
     refine wpAnyH_take (i := 19) (v := ?_) rfl (by kernel_rfl) (by kernel_rfl) (by kernel_rfl) (fun _ _ _ h => h) (Or.inl ⟨by rfl, ?_⟩) hS2 ?_
     rotate_left
     ·
      rintro w' ⟨s1, s2, s3, s4, s5, s6⟩
      go_simp
      first | done | with_reducible rfl | rfl
     simp only [Act.put, LA]
     refine wpAnyH_ready (rs := [21]) (by kernel_rfl) (by simp) (AllReadyH.cons rfl (fun K hK => ?_) AllReadyH.nil)
     have z0 := one_cell R2.out
     have z1 := one_free R2.out
     go_simp
     have BF := Lib.hid (B2.out.setCell (p := ⟨gb, 0, none⟩) GA.out (.slice Ab pn cb))
     have hS9 := ((SD.out.step BF.out).cells CS.out HIL.out HU.out)
     refine hK.out _ _ hS9 (fun _ => ?_)
     clear hK K z0 z1
     refine wpAnyH_take (i := 22) (v := ?_) rfl (by kernel_rfl) (by kernel_rfl) (by kernel_rfl) (fun _ _ _ h => h) (Or.inl ⟨by rfl, ?_⟩) hS9 ?_
     rotate_left
     ·
      rintro w' ⟨s1, s2, s3, s4, s5, s6⟩
      go_simp
      first | done | with_reducible rfl | rfl
     simp only [Act.put, LA]
     refine wpAnyH_done (by kernel_rfl) ?_ _
     refine NoPanic.normal ?_
     go_wp2_with fail
     go_meet
     exact ⟨gb, pn, cb, Ab, p, rfl, rfl, SD.out.step BF.out, heap_setCell_same W2 gb 0 _ _ _ R2.out, ns_boxed N2.out R2.out, HAB.out, HPN.out, HSB.out⟩
   case rest =>
    obtain ⟨gb, pn, cb, Ab, p, rfl, rfl, hj, hbx, nb, hab, hpn, hsb⟩ := hcut
    have J1 := Lib.hid hj
    have R1 := Lib.hid hbx
    have N1 := Lib.hid nb
    have HAB := Lib.hid hab
    have HPN := Lib.hid hpn
    have HSB := Lib.hid hsb
    have hcb := nb.cap
    rw [hpn] at hcb
    have hq2 := HW.out.up HIL.out HQ.out (by rw [← HU.out]; exact hsb)
    have hlp := HW.out.lenU hq2
    rw [hpn] at hlp
    have HQ2 := Lib.hid hq2
    have g1 := one_cell hbx
    clear f1 f2 f3 f4 f5 f6 hj hbx nb hab hpn hsb hq2 SD
    go_wp2_with (go_at_call 24; go_loud (refine (nrright_any Ab cb pn p _ N1.out HPN.out (by omega)).mono ?_; rintro e wy ⟨rfl, b9⟩; rw [HSB.out.1.quad]; have J2 := Lib.hid (J1.out.step b9); have N2 := Lib.hid (N1.out.below b9); have g2 := one_cell ((b9.block gb (heapLt R1.out)).trans R1.out); have g3 := one_cell J2.out.bx; have g4 := one_free J2.out.bx; clear b9 g1))
    go_roundw
    case rel => exact ⟨i + 1, Ab, cb, pn, p, _, _, by omega, by go_num, rfl, rfl, J2.out.put N2.out HAB.out HPN.out, HQ2.out⟩
    case measure => simp [intOf]; omega
  ·
   obtain rfl : i = k := by omega
   have t1 : decide ((i : Int) < (i : Int)) = false := decide_eq_false (by omega)
   have hall := HW.out.all (by have h5 := HQ.out; rw [← HK.out] at h5; exact h5)
   subst hall
   obtain rfl : nq = qn := HJ.out.ln.symm.trans HQN.out
   have H4 := Lib.hid (H3.out.step HJ.out.b)
   have g1 := one_cell HJ.out.bx
   have g2 := H4.out.getB (g := w2.heap.size) (v := .slice A5 nq c5) (by simp)
   go_wp2_with (go_at_call 18; go_loud (refine (rsame_any Aq A5 cq c5 nq nq q q _ HJ.out.ns (H4.out.getN (A := A5) (c := c5) (l := q) (by simp)) HQN.out HQN.out).mono ?_; rintro e wz ⟨rfl, b9⟩; rw [decide_eq_true (rfl : q = q)]; have HJ2 := Lib.hid (HJ.out.step b9); clear b9 g1 g2))
   clear HJ HQ H4
   obtain ⟨k, rfl⟩ : ∃ k, k = i := ⟨_, rfl⟩
   go_loopw [10, 11, 12] (fun z1 z2 z3 wr => ∃ (i : Nat) (Aq : Option Addr) (cq nq : Nat) (q : List Nd) (u2 u3 : Value), i ≤ k ∧ z1 = .int .i64 i ∧ z2 = u2 ∧ z3 = u3 ∧ LaJ w3 wr Aq cq nq q ∧ QuadOf ((out.map Cv.cl).drop i) q) (fun z1 _ _ _ => k - (intOf z1).toNat)
   case atStart => exact ⟨0, Aq, cq, nq, q, _, _, by omega, rfl, rfl, rfl, HJ2.out, by rw [List.drop_zero]; exact HW.out.quad⟩
   case round =>
    obtain ⟨i, Aq, cq, nq, q, u2, u3, hi, rfl, rfl, rfl, hj, hq⟩ := hrel
    have HJ := Lib.hid hj
    have HQ := Lib.hid hq
    clear hj hq
    by_cases hlt : i < k
    ·
     have t1 : decide ((i : Int) < (k : Int)) = true := decide_eq_true (by omega)
     have i1 : (0 : Int) ≤ (i : Int) := by omega
     have i2 : (i : Int) < (k : Int) := by omega
     have HIL := Lib.hid (show i < out.length by rw [HK.out]; exact hlt)
     have hcq := HJ.out.ns.cap
     rw [HJ.out.ln] at hcq
     have hlen := HW.out.lenD HQ.out
     rw [HJ.out.ln] at hlen
     have HQS := Lib.hid (qs_quadOf HQ.out)
     obtain ⟨b, off, rfl, -, -⟩ := CS.out.at_ (by rw [HK.out]; omega)
     obtain ⟨u, hu⟩ : ∃ u, u = cat out i := ⟨_, rfl⟩
     have HU := Lib.hid hu
     have hi5 := HW.out.inr HIL.out
     have hs5 := HW.out.short _ (cat_mem HIL.out)
     rw [← hu] at hi5 hs5
     have HIN := Lib.hid hi5
     obtain ⟨hx5, hy5⟩ := hs5
     obtain ⟨f1, f2, f3, f4, f5, f6⟩ := HJ.out.cells CS.out HIL.out HU.out
     have hst := (HJ.out.uu CS.out HW.out HIL.out HU.out).1.2.2
     have hv1 := (HJ.out.uu CS.out HW.out HIL.out HU.out).1.1.cap
     have hv2 := (HJ.out.uu CS.out HW.out HIL.out HU.out).1.2.1.cap
     have SD := Lib.hid (HJ.out.step (Below.drew' (Below.refl _ wr)))
     clear hu hi5
     go_upto_region 20 with (fail)
     go_cut [11, 12] from 62 to 90 (fun z1 z2 wx => ∃ (gb pn cb : Nat) (Ab : Option Addr) (p : List Nd), z1 = .pointer (some ⟨gb, 0, none⟩) ∧ z2 = .int .i64 0 ∧ LaJ w3 wx Aq cq nq q ∧ wx.heap[gb]? = some (.cells #[.slice Ab pn cb] 31) ∧ Ns wx Ab cb p ∧ (Ab = none → cb = 0) ∧ p.length = pn ∧ SetOf q (ival u.sx u.xs) (ival u.sy u.ys) 0 p)
     case first =>
      refine wp_region_noPanic ?_
      refine wp_region_held (S := fun w' => w'.cell? ⟨w3.heap.size, 0, none⟩ = some (.slice Aq nq cq) ∧ w'.cell? ⟨b, off + i * 5, none⟩ = some (.bool u.sx) ∧ w'.cell? ⟨b, off + i * 5 + 1, none⟩ = some (.slice u.ax u.xs.length u.cx) ∧ w'.cell? ⟨b, off + i * 5 + 2, none⟩ = some (.bool u.sy) ∧ w'.cell? ⟨b, off + i * 5 + 3, none⟩ = some (.slice u.ay u.ys.length u.cy) ∧ w'.cell? ⟨b, off + i * 5 + 4, none⟩ = some (.int .u8 u.st)) (by kernel_rfl) ?_
      obtain ⟨W0, hW0⟩ : ∃ W0 : World, W0 = wr.drew := ⟨_, rfl⟩
      rw [← hW0] at SD
      change wpAnyH _ _ _ _ _ _ _ _ wr.drew
      rw [← hW0]
      clear hW0 f1 f2 f3 f4 f5 f6
      have B0 := Lib.hid (Below.refl W0.heap.size W0)
      have hS0 := (SD.out.cells CS.out HIL.out HU.out)
      refine wpAnyH_take (i := 0) (v := ?_) rfl (by kernel_rfl) (by kernel_rfl) (by kernel_rfl) (fun _ _ _ h => h) (Or.inl ⟨by rfl, ?_⟩) hS0 ?_
      rotate_left
      ·
       rintro w' ⟨s1, s2, s3, s4, s5, s6⟩
       go_simp
       first | done | with_reducible rfl | rfl
      simp only [Act.put, LA]
      refine wpAnyH_take (i := 1) (v := ?_) rfl (by kernel_rfl) (by kernel_rfl) (by kernel_rfl) (fun _ _ _ h => h) (Or.inl ⟨by rfl, ?_⟩) hS0 ?_
      rotate_left
      ·
       rintro w' ⟨s1, s2, s3, s4, s5, s6⟩
       go_simp
       first | done | with_reducible rfl | rfl
      simp only [Act.put, LA]
      refine wpAnyH_take (i := 2) (v := ?_) rfl (by kernel_rfl) (by kernel_rfl) (by kernel_rfl) (fun _ _ _ h => h) (Or.inl ⟨by rfl, ?_⟩) hS0 ?_
      rotate_left
      ·
       rintro w' ⟨s1, s2, s3, s4, s5, s6⟩
       go_simp
       first | done | with_reducible rfl | rfl
      simp only [Act.put, LA]
      refine wpAnyH_take (i := 3) (v := ?_) rfl (by kernel_rfl) (by kernel_rfl) (by kernel_rfl) (fun _ _ _ h => h) (Or.inl ⟨by rfl, ?_⟩) hS0 ?_
      rotate_left
      ·
       rintro w' ⟨s1, s2, s3, s4, s5, s6⟩
       go_simp
       first | done | with_reducible rfl | rfl
      simp only [Act.put, LA]
      refine wpAnyH_take (i := 4) (v := ?_) rfl (by kernel_rfl) (by kernel_rfl) (by kernel_rfl) (fun _ _ _ h => h) (Or.inl ⟨by rfl, ?_⟩) hS0 ?_
      rotate_left
      ·
       rintro w' ⟨s1, s2, s3, s4, s5, s6⟩
       go_simp
       first | done | with_reducible rfl | rfl
      simp only [Act.put, LA]
      refine wpAnyH_take (i := 5) (v := ?_) rfl (by kernel_rfl) (by kernel_rfl) (by kernel_rfl) (fun _ _ _ h => h) (Or.inl ⟨by rfl, ?_⟩) hS0 ?_
      rotate_left
      ·
       rintro w' ⟨s1, s2, s3, s4, s5, s6⟩
       go_simp
       first | done | with_reducible rfl | rfl
      simp only [Act.put, LA]
      refine wpAnyH_take (i := 6) (v := ?_) rfl (by kernel_rfl) (by kernel_rfl) (by kernel_rfl) (fun _ _ _ h => h) (Or.inl ⟨by rfl, ?_⟩) hS0 ?_
      rotate_left
      ·
       rintro w' ⟨s1, s2, s3, s4, s5, s6⟩
       go_simp
       first | done | with_reducible rfl | rfl
      simp only [Act.put, LA]
      refine wpAnyH_take (i := 7) (v := ?_) rfl (by kernel_rfl) (by kernel_rfl) (by kernel_rfl) (fun _ _ _ h => h) (Or.inl ⟨by rfl, ?_⟩) hS0 ?_
      rotate_left
      ·
       rintro w' ⟨s1, s2, s3, s4, s5, s6⟩
       go_simp
       first | done | with_reducible rfl | rfl
      simp only [Act.put, LA]
      refine wpAnyH_take (i := 8) (v := ?_) rfl (by kernel_rfl) (by kernel_rfl) (by kernel_rfl) (fun _ _ _ h => h) (Or.inl ⟨by rfl, ?_⟩) hS0 ?_
      rotate_left
      ·
       rintro w' ⟨s1, s2, s3, s4, s5, s6⟩
       go_simp
       first | done | with_reducible rfl | rfl
      simp only [Act.put, LA]
      refine wpAnyH_take (i := 9) (v := ?_) rfl (by kernel_rfl) (by kernel_rfl) (by kernel_rfl) (fun _ _ _ h => h) (Or.inl ⟨by rfl, ?_⟩) hS0 ?_
      rotate_left
      ·
       rintro w' ⟨s1, s2, s3, s4, s5, s6⟩
       go_simp
       first | done | with_reducible rfl | rfl
      simp only [Act.put, LA]
      refine wpAnyH_take (i := 10) (v := ?_) rfl (by kernel_rfl) (by kernel_rfl) (by kernel_rfl) (fun _ _ _ h => h) (Or.inl ⟨by rfl, ?_⟩) hS0 ?_
      rotate_left
      ·
       rintro w' ⟨s1, s2, s3, s4, s5, s6⟩
       go_simp
       first | done | with_reducible rfl | rfl
      simp only [Act.put, LA]
      refine wpAnyH_ready (rs := [11, 15]) (by kernel_rfl) (by simp) (AllReadyH.cons rfl (fun K hK => ?_) (AllReadyH.cons rfl (fun K hK => ?_) AllReadyH.nil))
      ·
       go_simp
       refine (set_bw Aq cq nq q u.bx u.by_ _ _ 0 _ (SD.out.step B0.out).ns SD.out.ln (by omega) SD.out.az HQS.out ((SD.out.step B0.out).uu CS.out HW.out HIL.out HU.out).2.1 ((SD.out.step B0.out).uu CS.out HW.out HIL.out HU.out).2.2 (by show u.xs.length ≤ _; omega) (by show u.ys.length ≤ _; omega) (by omega)).mono ?_
       rintro e W1 ⟨Ab, cb, p, er, rfl, nb, ab, b, lb, sb⟩
       obtain ⟨e1, sb2⟩ := sb.yes fun _ => HIN.out
       subst e1
       dsimp only
       obtain ⟨pn, hpn⟩ : ∃ pn, p.length = pn := ⟨_, rfl⟩
       rw [hpn]
       have hcb := nb.cap
       rw [hpn] at hcb
       have B1 := Lib.hid (B0.out.trans (b.mono B0.out.size))
       have N1 := Lib.hid nb
       have HPN := Lib.hid hpn
       have HAB := Lib.hid ab
       have HSB := Lib.hid (show SetOf q (ival u.sx u.xs) (ival u.sy u.ys) 0 p from sb2)
       refine hK.out _ _ ((SD.out.step B1.out).cells CS.out HIL.out HU.out) (fun hS1 => ?_)
       clear hK K nb ab b lb sb sb2 hpn
       refine wpAnyH_take (i := 12) (v := ?_) rfl (by kernel_rfl) (by kernel_rfl) (by kernel_rfl) (fun _ _ _ h => h) (Or.inl ⟨by rfl, ?_⟩) hS1 ?_
       rotate_left
       ·
        rintro w' ⟨s1, s2, s3, s4, s5, s6⟩
        go_simp
        first | done | with_reducible rfl | rfl
       simp only [Act.put, LA]
       refine wpAnyH_take (i := 13) (v := ?_) rfl (by kernel_rfl) (by kernel_rfl) (by kernel_rfl) (fun _ _ _ h => h) (Or.inl ⟨by rfl, ?_⟩) hS1 ?_
       rotate_left
       ·
        rintro w' ⟨s1, s2, s3, s4, s5, s6⟩
        go_simp
        first | done | with_reducible rfl | rfl
       simp only [Act.put, LA]
       refine wpAnyH_take (i := 14) (v := ?_) rfl (by kernel_rfl) (by kernel_rfl) (by kernel_rfl) (fun _ _ _ h => h) (Or.inl ⟨by rfl, ?_⟩) hS1 ?_
       rotate_left
       ·
        rintro w' ⟨s1, s2, s3, s4, s5, s6⟩
        go_simp
        first | done | with_reducible rfl | rfl
       simp only [Act.put, LA]
       refine wpAnyH_ready (rs := [15]) (by kernel_rfl) (by simp) (AllReadyH.cons rfl (fun K hK => ?_) AllReadyH.nil)
       go_simp
       obtain ⟨gb, hg⟩ : ∃ g, g = W1.heap.size := ⟨_, rfl⟩
       obtain ⟨W2, hW⟩ : ∃ Z : World, Z = W1.alloc (.cells #[.slice none 0 0] 31) := ⟨_, rfl⟩
       have hbl := (Below.refl W1.heap.size W1).alloc (Nat.le_refl _) (.cells #[.slice none 0 0] 31)
       rw [← hW] at hbl
       have R2 := Lib.hid (show W2.heap[gb]? = some (.cells #[.slice none 0 0] 31) by rw [hW, hg]; exact heap_alloc_new W1 _)
       have GA := Lib.hid (show W0.heap.size ≤ gb by rw [hg]; exact B1.out.size)
       have B2 := Lib.hid (B1.out.trans (hbl.mono B1.out.size))
       have N2 := Lib.hid (N1.out.below hbl)
       rw [← hg, ← hW]
       refine hK.out _ _ ((SD.out.step B2.out).cells CS.out HIL.out HU.out) (fun _ => ?_)
       clear hK K hg hW hbl
       refine wpAnyH_ready (rs := [16]) (by kernel_rfl) (by simp) (AllReadyH.cons rfl (fun K hK => ?_) AllReadyH.nil)
       have z0 := one_cell R2.out
       have z1 := one_free R2.out
       go_simp
       have BF := Lib.hid (B2.out.setCell (p := ⟨gb, 0, none⟩) GA.out (.slice Ab pn cb))
       have hS9 := ((SD.out.step BF.out).cells CS.out HIL.out HU.out)
       refine hK.out _ _ hS9 (fun _ => ?_)
       clear hK K z0 z1
       refine wpAnyH_take (i := 17) (v := ?_) rfl (by kernel_rfl) (by kernel_rfl) (by kernel_rfl) (fun _ _ _ h => h) (Or.inl ⟨by rfl, ?_⟩) hS9 ?_
       rotate_left
       ·
        rintro w' ⟨s1, s2, s3, s4, s5, s6⟩
        go_simp
        first | done | with_reducible rfl | rfl
       simp only [Act.put, LA]
       refine wpAnyH_done (by kernel_rfl) ?_ _
       refine NoPanic.normal ?_
       go_wp2_with fail
       go_meet
       exact ⟨gb, pn, cb, Ab, p, rfl, rfl, SD.out.step BF.out, heap_setCell_same W2 gb 0 _ _ _ R2.out, ns_boxed N2.out R2.out, HAB.out, HPN.out, HSB.out⟩
      ·
       go_simp
       obtain ⟨gb, hg⟩ : ∃ g, g = W0.heap.size := ⟨_, rfl⟩
       obtain ⟨W1, hW⟩ : ∃ Z : World, Z = W0.alloc (.cells #[.slice none 0 0] 31) := ⟨_, rfl⟩
       have hbl := (Below.refl W0.heap.size W0).alloc (Nat.le_refl _) (.cells #[.slice none 0 0] 31)
       rw [← hW] at hbl
       have R1 := Lib.hid (show W1.heap[gb]? = some (.cells #[.slice none 0 0] 31) by rw [hW, hg]; exact heap_alloc_new W0 _)
       have GA := Lib.hid (show W0.heap.size ≤ gb by rw [hg]; exact B0.out.size)
       have B1 := Lib.hid (B0.out.trans (hbl.mono B0.out.size))
       rw [← hg, ← hW]
       refine hK.out _ _ ((SD.out.step B1.out).cells CS.out HIL.out HU.out) (fun _ => ?_)
       clear hK K hg hW hbl
       refine wpAnyH_ready (rs := [11]) (by kernel_rfl) (by simp) (AllReadyH.cons rfl (fun K hK => ?_) AllReadyH.nil)
       go_simp
       refine (set_bw Aq cq nq q u.bx u.by_ _ _ 0 _ (SD.out.step B1.out).ns SD.out.ln (by omega) SD.out.az HQS.out ((SD.out.step B1.out).uu CS.out HW.out HIL.out HU.out).2.1 ((SD.out.step B1.out).uu CS.out HW.out HIL.out HU.out).2.2 (by show u.xs.length ≤ _; omega) (by show u.ys.length ≤ _; omega) (by omega)).mono ?_
       rintro e W2 ⟨Ab, cb, p, er, rfl, nb, ab, b, lb, sb⟩
       obtain ⟨e1, sb2⟩ := sb.yes fun _ => HIN.out
       subst e1
       dsimp only
       obtain ⟨pn, hpn⟩ : ∃ pn, p.length = pn := ⟨_, rfl⟩
       rw [hpn]
       have hcb := nb.cap
       rw [hpn] at hcb
       have B2 := Lib.hid (B1.out.trans (b.mono B1.out.size))
       have N2 := Lib.hid nb
       have HPN := Lib.hid hpn
       have HAB := Lib.hid ab
       have HSB := Lib.hid (show SetOf q (ival u.sx u.xs) (ival u.sy u.ys) 0 p from sb2)
       have R2 := Lib.hid ((b.block gb (heapLt R1.out)).trans R1.out)
       refine hK.out _ _ ((SD.out.step B2.out).cells CS.out HIL.out HU.out) (fun hS2 => ?_)
       clear hK K nb ab b lb sb sb2 hpn
       refine wpAnyH_take (i := 12) (v := ?_) rfl (by kernel_rfl) (by kernel_rfl) (by kernel_rfl) (fun _ _ _ h => h) (Or.inl ⟨by rfl, ?_⟩) hS2 ?_
       rotate_left
       ·
        rintro w' ⟨s1, s2, s3, s4, s5, s6⟩
        go_simp
        first | done | with_reducible rfl | rfl
       simp only [Act.put, LA]
       refine wpAnyH_take (i := 13) (v := ?_) rfl (by kernel_rfl) (by kernel_rfl) (by kernel_rfl) (fun _ _ _ h => h) (Or.inl ⟨by rfl, ?_⟩) hS2 ?_
       rotate_left
       ·
        rintro w' ⟨s1, s2, s3, s4, s5, s6⟩
        go_simp
        first | done | with_reducible rfl | rfl
       simp only [Act.put, LA]
       refine wpAnyH_take (i := 14) (v := ?_) rfl (by kernel_rfl) (by kernel_rfl) (by kernel_rfl) (fun _ _ _ h => h) (Or.inl ⟨by rfl, ?_⟩) hS2 ?_
       rotate_left
       ·
        rintro w' ⟨s1, s2, s3, s4, s5, s6⟩
        go_simp
        first | done | with_reducible rfl | rfl
       simp only [Act.put, LA]
       refine wpAnyH_ready (rs := [16]) (by kernel_rfl) (by simp) (AllReadyH.cons rfl (fun K hK => ?_) AllReadyH.nil)
       have z0 := one_cell R2.out
       have z1 := one_free R2.out
       go_simp
       have BF := Lib.hid (B2.out.setCell (p := ⟨gb, 0, none⟩) GA.out (.slice Ab pn cb))
       have hS9 := ((SD.out.step BF.out).cells CS.out HIL.out HU.out)
       refine hK.out _ _ hS9 (fun _ => ?_)
       clear hK K z0 z1
       refine wpAnyH_take (i := 17) (v := ?_) rfl (by kernel_rfl) (by kernel_rfl) (by kernel_rfl) (fun _ _ _ h => h) (Or.inl ⟨by rfl, ?_⟩) hS9 ?_
       rotate_left
       ·
        rintro w' ⟨s1, s2, s3, s4, s5, s6⟩
        go_simp
        first | done | with_reducible rfl | rfl
       simp only [Act.put, LA]
       refine wpAnyH_done (by kernel_rfl) ?_ _
       refine NoPanic.normal ?_
       go_wp2_with fail
       go_meet
       exact ⟨gb, pn, cb, Ab, p, rfl, rfl, SD.out.step BF.out, heap_setCell_same W2 gb 0 _ _ _ R2.out, ns_boxed N2.out R2.out, HAB.out, HPN.out, HSB.out⟩
     case rest =>
      obtain ⟨gb, pn, cb, Ab, p, rfl, rfl, hj, hbx, nb, hab, hpn, hsb⟩ := hcut
      have J1 := Lib.hid hj
      have R1 := Lib.hid hbx
      have N1 := Lib.hid nb
      have HAB := Lib.hid hab
      have HPN := Lib.hid hpn
      have HSB := Lib.hid hsb
      have hcb := nb.cap
      rw [hpn] at hcb
      have hq2 := HW.out.down HIL.out HQ.out (by rw [← HU.out]; exact hsb)
      have hlp := HW.out.lenD hq2
      rw [hpn] at hlp
      have HQ2 := Lib.hid hq2
      have g1 := one_cell hbx
      clear f1 f2 f3 f4 f5 f6 hj hbx nb hab hpn hsb hq2 SD
      go_wp2_with (go_at_call 24; go_loud (refine (nrright_any Ab cb pn p _ N1.out HPN.out (by omega)).mono ?_; rintro e wy ⟨rfl, b9⟩; rw [HSB.out.1.quad]; have J2 := Lib.hid (J1.out.step b9); have N2 := Lib.hid (N1.out.below b9); have g2 := one_cell ((b9.block gb (heapLt R1.out)).trans R1.out); have g3 := one_cell J2.out.bx; have g4 := one_free J2.out.bx; clear b9 g1))
      go_roundw
      case rel => exact ⟨i + 1, Ab, cb, pn, p, _, _, by omega, by go_num, rfl, rfl, J2.out.put N2.out HAB.out HPN.out, HQ2.out⟩
      case measure => simp [intOf]; omega
    ·
     obtain rfl : i = k := by omega
     have t1 : decide ((i : Int) < (i : Int)) = false := decide_eq_false (by omega)
     have hnil := Way.none (out := out) (by have h5 := HQ.out; rw [← HK.out] at h5; exact h5)
     have hn0 := HJ.out.ln
     rw [hnil] at hn0
     obtain rfl : nq = 0 := hn0.symm
     have g1 := one_cell HJ.out.bx
     go_wp2_with fail
     go_ret
     exact ⟨rfl, H3.out.sn.1.trans (HJ.out.b.mono H3.out.sn.1.size)⟩
theorem lall_law (A : Option Addr) (c : Nat) (l : List Cv) (w : World) (h : Cs w A c l) :
  Calls Try.prog 6 #[.slice A l.length c] w fun e w' => e = .returned (.bool true) ∧ Below w.heap.size w w' := by
 cases hm : mayB l 20 with
 | false => exact lall_may A c _ l w h rfl hm
 | true => exact lall_main A c _ l w h rfl hm
end Go.Proofs.Ytdmkiioimmmlbaa
