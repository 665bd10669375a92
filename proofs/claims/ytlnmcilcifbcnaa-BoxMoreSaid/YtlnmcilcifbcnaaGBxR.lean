/-
  box: BoxAround, the walk.
-/
import Derived.Test.YtlnmcilcifbcnaaGBxZ
import Derived.Test.YtlnmcilcifbcnaaGNcRV
import Derived.Test.YtlnmcilcifbcnaaGLkGu
import Derived.Test.YtlnmcilcifbcnaaGClG
import Derived.Test.YtlnmcilcifbcnaaLay0

set_option linter.unusedVariables false
set_option linter.unusedSimpArgs false
set_option maxRecDepth 100000
namespace Go.Proofs.Ytlnmcilcifbcnaa
open Go.RowKit Num Nds
theorem lk_mem9 {L : List Cl} {x y : Int} : lk L x y ≠ 0 → ∃ c ∈ L, c.x = x ∧ c.y = y := by
 intro h
 induction L with
 | nil => exact absurd rfl h
 | cons c L ih =>
  unfold lk at h
  split at h
  ·
   rename_i e
   exact ⟨c, List.mem_cons_self, e.1, e.2⟩
  ·
   obtain ⟨d, h1, h2⟩ := ih h
   exact ⟨d, List.mem_cons_of_mem _ h1, h2⟩
theorem ord_ge9 {a b : Int} (h : b ≤ a) : ¬ ordI a b < 0 := by
 unfold ordI
 split
 ·
  omega
 ·
  split <;> omega
theorem ord_le9 {a b : Int} (h : a ≤ b) : ¬ ordI a b > 0 := by
 unfold ordI
 split
 ·
  omega
 ·
  split <;> omega
theorem around_some {l : List Cv} {q : List Nd} (h : QuadOf (lastF (l.map Cv.cl)) q) {c : Cl} (hc : c ∈ lastF (l.map Cv.cl)) : cellM (den q q.length) c.x c.y ≠ 0 := by
 rw [h.den, lk_mem (lastF_srt _) hc]
 exact ((lastF_spec _).2.2 c hc).1
theorem around_in {l out : List Cv} {q : List Nd} (h : QuadOf (lastF (l.map Cv.cl)) q) (hm : out.map Cv.cl = lastF (l.map Cv.cl)) (h0 : out ≠ []) {ok : Bool} {X Y V H : Int} (b : BxV q q.length ok X Y V H) :
  ∀ c ∈ out.map Cv.cl, X ≤ c.x ∧ c.x ≤ X + V - 1 ∧ Y ≤ c.y ∧ c.y ≤ Y + H - 1 := by
 intro c hc
 rw [hm] at hc
 have h1 := around_some h hc
 rcases b.cells h.good with ⟨rfl, -⟩ | ⟨-, h2, -⟩
 ·
  exact absurd rfl h1
 ·
  exact h2 _ _ h1
structure ArJ (S : World) (gt : Nat) (a0 a1 a2 a3 : Bool) (W : World) : Prop where
 b : Below S.heap.size S W
 t : W.heap[gt]? = some (.cells #[.bool a0, .bool a1, .bool a2, .bool a3] 59)
 lo : S.heap.size ≤ gt
section
variable {S W W' : World} {gt : Nat} {a0 a1 a2 a3 : Bool}
theorem ArJ.next (h : ArJ S gt a0 a1 a2 a3 W) (k : Below W.heap.size W W') : ArJ S gt a0 a1 a2 a3 W' := ⟨h.b.trans (k.mono h.b.size), (k.block _ (heapLt h.t)).trans h.t, h.lo⟩
theorem ArJ.set0 (h : ArJ S gt a0 a1 a2 a3 W) (v : Bool) : ArJ S gt v a1 a2 a3 (W.setCell ⟨gt, 0, none⟩ (.bool v)) := ⟨h.b.setCell (p := ⟨gt, 0, none⟩) h.lo _, (heap_setCell_same W gt 0 _ _ _ h.t).trans rfl, h.lo⟩
theorem ArJ.set1 (h : ArJ S gt a0 a1 a2 a3 W) (v : Bool) : ArJ S gt a0 v a2 a3 (W.setCell ⟨gt, 1, none⟩ (.bool v)) := ⟨h.b.setCell (p := ⟨gt, 1, none⟩) h.lo _, (heap_setCell_same W gt 1 _ _ _ h.t).trans rfl, h.lo⟩
theorem ArJ.set2 (h : ArJ S gt a0 a1 a2 a3 W) (v : Bool) : ArJ S gt a0 a1 v a3 (W.setCell ⟨gt, 2, none⟩ (.bool v)) := ⟨h.b.setCell (p := ⟨gt, 2, none⟩) h.lo _, (heap_setCell_same W gt 2 _ _ _ h.t).trans rfl, h.lo⟩
theorem ArJ.set3 (h : ArJ S gt a0 a1 a2 a3 W) (v : Bool) : ArJ S gt a0 a1 a2 v (W.setCell ⟨gt, 3, none⟩ (.bool v)) := ⟨h.b.setCell (p := ⟨gt, 3, none⟩) h.lo _, (heap_setCell_same W gt 3 _ _ _ h.t).trans rfl, h.lo⟩
end
theorem ar_cells {S W : World} {gb g9 g10 : Nat} {b : Xb} {ue vs : Bw} {E F : Int} (hb : S.heap[gb]? = some b.obj) (he : ue.B S g9 E) (hs : vs.B S g10 F) (k : Below S.heap.size S W) :
  W.cell? ⟨gb, 0, none⟩ = some (.bool b.x.s) ∧ W.cell? ⟨gb, 1, none⟩ = some (.slice b.x.a b.x.xs.length b.x.c) ∧ W.cell? ⟨gb, 2, none⟩ = some (.bool b.y.s) ∧ W.cell? ⟨gb, 3, none⟩ = some (.slice b.y.a b.y.xs.length b.y.c) ∧ W.cell? ⟨g9, 0, none⟩ = some (.bool ue.s) ∧ W.cell? ⟨g9, 1, none⟩ = some (.slice ue.a ue.xs.length ue.c) ∧ W.cell? ⟨g10, 0, none⟩ = some (.bool vs.s) ∧ W.cell? ⟨g10, 1, none⟩ = some (.slice vs.a vs.xs.length vs.c) := by
 obtain ⟨c0, c1, c2, c3, -⟩ := Xb.cells ((k.block _ (heapLt hb)).trans hb)
 exact ⟨c0, c1, c2, c3, (he.next k).c0, (he.next k).c1, (hs.next k).c0, (hs.next k).c1⟩
abbrev cellO (u : Cv) : Obj := .cells #[.bool u.sx, .slice u.ax u.xs.length u.cx, .bool u.sy, .slice u.ay u.ys.length u.cy, .int .u8 u.st] 27
theorem five_cells {W : World} {g : Nat} {u : Cv} (h : W.heap[g]? = some (cellO u)) : W.cell? ⟨g, 0, none⟩ = some (.bool u.sx) ∧ W.cell? ⟨g, 1, none⟩ = some (.slice u.ax u.xs.length u.cx) ∧ W.cell? ⟨g, 2, none⟩ = some (.bool u.sy) ∧ W.cell? ⟨g, 3, none⟩ = some (.slice u.ay u.ys.length u.cy) := by
 refine ⟨?_, ?_, ?_, ?_⟩ <;> (rw [cell_of_row W g _ _ _ (0, 0) h]; rfl)
def metB (f : Cl → Int) (E : Int) (L : List Cv) (i : Nat) : Bool := (L.take i).any fun v => decide (f v.cl = E)
theorem met_succ {f : Cl → Int} {E : Int} {L : List Cv} {i : Nat} (hi : i < L.length) : metB f E L (i + 1) = (metB f E L i || decide (f (cat L i).cl = E)) := by
 unfold metB cat
 rw [List.take_add_one, List.any_append, List.getElem?_eq_getElem hi]
 simp
theorem met_all {f : Cl → Int} {E : Int} {L : List Cv} (h : ∃ c ∈ L.map Cv.cl, f c = E) : metB f E L L.length = true := by
 obtain ⟨c, hc, he⟩ := h
 obtain ⟨v, hv, rfl⟩ := List.mem_map.1 hc
 unfold metB
 rw [List.take_length, List.any_eq_true]
 exact ⟨v, hv, decide_eq_true he⟩
theorem around_met {l out : List Cv} {q : List Nd} (h : QuadOf (lastF (l.map Cv.cl)) q) (hm : out.map Cv.cl = lastF (l.map Cv.cl)) (h0 : out ≠ []) {ok : Bool} {X Y V H : Int} (b : BxV q q.length ok X Y V H) :
  ok = true ∧ metB Cl.x X out out.length = true ∧ metB Cl.x (X + V - 1) out out.length = true ∧ metB Cl.y Y out out.length = true ∧ metB Cl.y (Y + H - 1) out out.length = true := by
 have key : ∀ x y, cellM (den q q.length) x y ≠ 0 → ∃ c ∈ out.map Cv.cl, c.x = x ∧ c.y = y := fun x y e => by
  rw [h.den] at e
  rw [hm]
  exact lk_mem9 e
 rcases b.cells h.good with ⟨rfl, -⟩ | ⟨rfl, -, ⟨x1, y1, a1, rfl⟩, ⟨x2, y2, a2, rfl⟩, ⟨x3, y3, a3, rfl⟩, ⟨x4, y4, a4, rfl⟩⟩
 ·
  obtain ⟨u, L, e⟩ := List.exists_cons_of_ne_nil h0
  have h1 := around_some h (c := u.cl) (by rw [← hm, e]; exact List.mem_cons_self)
  exact absurd rfl h1
 ·
  refine ⟨rfl, met_all ?_, met_all ?_, met_all ?_, met_all ?_⟩
  ·
   obtain ⟨c, hc, e1, e2⟩ := key _ _ a1
   exact ⟨c, hc, e1⟩
  ·
   obtain ⟨c, hc, e1, e2⟩ := key _ _ a2
   exact ⟨c, hc, e1⟩
  ·
   obtain ⟨c, hc, e1, e2⟩ := key _ _ a3
   exact ⟨c, hc, e2⟩
  ·
   obtain ⟨c, hc, e1, e2⟩ := key _ _ a4
   exact ⟨c, hc, e2⟩
theorem around_cells {S W : World} {gb go : Nat} {b : Xb} {o : Bw} {O : Int} (hb : S.heap[gb]? = some b.obj) (ho : o.B S go O) (k : Below S.heap.size S W) : W.cell? ⟨gb, 0, none⟩ = some (.bool b.x.s) ∧ W.cell? ⟨gb, 1, none⟩ = some (.slice b.x.a b.x.xs.length b.x.c) ∧ W.cell? ⟨gb, 2, none⟩ = some (.bool b.y.s) ∧ W.cell? ⟨gb, 3, none⟩ = some (.slice b.y.a b.y.xs.length b.y.c) ∧ W.cell? ⟨gb, 4, none⟩ = some (.bool b.w.s) ∧ W.cell? ⟨gb, 5, none⟩ = some (.slice b.w.a b.w.xs.length b.w.c) ∧ W.cell? ⟨gb, 6, none⟩ = some (.bool b.h.s) ∧ W.cell? ⟨gb, 7, none⟩ = some (.slice b.h.a b.h.xs.length b.h.c) ∧ W.cell? ⟨go, 0, none⟩ = some (.bool o.s) ∧ W.cell? ⟨go, 1, none⟩ = some (.slice o.a o.xs.length o.c) := by
 obtain ⟨c0, c1, c2, c3, c4, c5, c6, c7⟩ := Xb.cells ((k.block _ (heapLt hb)).trans hb)
 exact ⟨c0, c1, c2, c3, c4, c5, c6, c7, (ho.next k).c0, (ho.next k).c1⟩
theorem BxV.low {q : List Nd} (hg : GoodL q) {ok : Bool} {X Y V H : Int} (b : BxV q q.length ok X Y V H) : (-p2 1330 + 1 ≤ X + V ∧ X + V ≤ p2 1330) ∧ (-p2 1330 + 1 ≤ Y + H ∧ Y + H ≤ p2 1330) := by
 have m1 := p2_pos 1330
 rcases b with ⟨-, -, h1, h2, h3, h4⟩ | ⟨h0, -, h1⟩
 ·
  omega
 ·
  have hlv := fit_lv (loose_fit hg.1 (i := q.length - 1) (by omega))
  obtain ⟨m, hm⟩ : ∃ m : Nat, (at_ q (q.length - 1)).lv = (m : Int) + 1 := ⟨(at_ q (q.length - 1)).lv.toNat - 1, by omega⟩
  have hw := wf_den hg.1 (q.length - 1) (by omega)
  rw [Nat.sub_add_cancel (by omega), hm] at hw
  have e1 : (at_ q (q.length - 1)).lv.toNat = m + 1 := by omega
  rw [e1] at h1
  have hw2 : ∀ t, (fun u => u = den q q.length) t → wfT ((m + 1 : Nat) : Int) t := fun t ht => by have ht' : t = den q q.length := ht; rw [ht']; exact hw
  have a1 := h1.west.in_ hw2
  have a2 := h1.east.in_ hw2
  have a3 := h1.north.in_ hw2
  have a4 := h1.south.in_ hw2
  have m2 := p2_mono (show m + 1 ≤ 1330 by omega)
  rw [Nat.add_sub_cancel] at a1 a2 a3 a4
  have m3 := p2_succ m
  have m4 := p2_pos m
  omega
theorem box_none {q : List Nd} (h : QuadOf [] q) {ok : Bool} {X Y V H : Int} (b : BxV q q.length ok X Y V H) : ok = false ∧ X = 0 ∧ Y = 0 ∧ V = 0 ∧ H = 0 := by
 rcases b.cells h.good with ⟨-, h1⟩ | ⟨-, -, ⟨x, y, h2, -⟩, -⟩
 ·
  exact h1
 ·
  exact absurd (by rw [h.den]; rfl) h2
set_option maxHeartbeats 6400000 in
theorem boxar_may
  (A : Option Addr) (c n : Nat) (l : List Cv) (w : World) (h : Cs w A c l) (hn : l.length = n) (hm : mayB l 30 = false) :
  Calls Try.prog 8 #[.slice A n c] w fun e w' => e = .returned (.bool true) ∧ Below w.heap.size w w' := by
 have hcap := h.cap
 rw [hn] at hcap
 have HCS := Lib.hid h
 have HL := Lib.hid hn
 have HM := Lib.hid hm
 have q0 : True := trivial
 clear h hn hm
 go_enter Try.func8, Try.ntmps8
 go_wp2_with (first
   | (have _t := q0; go_at_call 25; clear _t; go_loud (refine (alive9_any _).mono ?_; rintro e w1 ⟨rfl, b1⟩; have H1 := Lib.hid ((Ag.start w).step b1); clear b1; have q1 := q0; clear q0))
   | (have _t := q1; go_at_call 11; clear _t; go_loud (refine (rquad_any A c n 30 l _ (HCS.out.below H1.out.b) HL.out (by omega)).mono ?_; rintro e w2 ⟨A5, c5, qn, want, ok, rfl, l5, n5, a5, b5, hok, -, hqo⟩; rw [HM.out] at hok; subst hok; have hc5 := n5.cap; rw [l5] at hc5; have H2 := Lib.hid (((H1.out.step b5).addN n5).addB (.slice A5 qn c5)); clear n5 a5 b5 l5 hqo; have q2 := q1; clear q1)))
 go_ret
 exact ⟨rfl, H2.out.b⟩
set_option maxHeartbeats 6400000 in
theorem boxar_yes
  (A : Option Addr) (c n : Nat) (l : List Cv) (w : World) (h : Cs w A c l) (hn : l.length = n) (hm : mayB l 30 = true) :
  Calls Try.prog 8 #[.slice A n c] w fun e w' => e = .returned (.bool true) ∧ Below w.heap.size w w' := by
 have hcap := h.cap
 rw [hn] at hcap
 have HCS := Lib.hid h
 have HL := Lib.hid hn
 have HM := Lib.hid hm
 have q0 : True := trivial
 have HB9 := Lib.hid (show ∀ (q : List Nd) (qn : Nat), QuadOf (lastF (l.map Cv.cl)) q → q.length = qn → qn ≤ 900000 from fun q qn hq e => by
  have h1 := hq.lenF.2
  have h2 := lastF_le (l.map Cv.cl)
  rw [List.length_map] at h2
  have h3 := (may_R hm).1
  omega)
 have n30 : n ≤ 30 := by have := (may_R hm).1; omega
 clear h hn hm
 go_enter Try.func8, Try.ntmps8
 go_upto_if 32 with (first
   | (have _t := q0; go_at_call 25; clear _t; go_loud (refine (alive9_any _).mono ?_; rintro e w1 ⟨rfl, b1⟩; have H1 := Lib.hid ((Ag.start w).step b1); clear b1; have q1 := q0; clear q0))
   | (have _t := q1; go_at_call 11; clear _t; go_loud (refine (rquad_any A c n 30 l _ (HCS.out.below H1.out.b) HL.out (by omega)).mono ?_; rintro e w2 ⟨A5, c5, qn, want, ok, rfl, l5, n5, a5, b5, hok, -, hqo⟩; rw [HM.out] at hok; subst hok; have hc5 := n5.cap; rw [l5] at hc5; have H2 := Lib.hid (((H1.out.step b5).addN n5).addB (.slice A5 qn c5)); have HQN := Lib.hid l5; have HQO := Lib.hid (hqo (by first | rfl | trivial)); have f5 := H2.out.getB (g := w2.heap.size) (v := .slice A5 qn c5) (by simp); clear n5 a5 b5 l5 hqo; have q2 := q1; clear q1))
   | (have _t := q2; go_at_call 23; clear _t; go_loud (refine (rclast_any A c n l _ (HCS.out.below H2.out.b) HL.out (may_R HM.out).2 (by omega)).mono ?_; rintro e w3 ⟨v3, out, rfl, ml3, in3, o3, b3⟩; have HC3 := Lib.hid ((HCS.out.below H2.out.b).below b3); obtain ⟨A3, c3, hv3, cs3, -, -⟩ := o3.cs (fun u hu => HC3.out.1 u (in3 u hu)); obtain ⟨k, hk⟩ : ∃ k, out.length = k := ⟨_, rfl⟩; rw [hk] at hv3; subst hv3; have cp3 := cs3.cap; rw [hk] at cp3; have CS3 := Lib.hid cs3; have HK := Lib.hid hk; have ML := Lib.hid ml3; have IN := Lib.hid (fun u hu => (may_R HM.out).2 u (in3 u hu)); have H3 := Lib.hid (H2.out.step b3); have f5 := H3.out.getB (g := w2.heap.size) (v := .slice A5 qn c5) (by simp); clear ml3 in3 o3 b3 cs3 hk; have q3 := q2; clear q2))
   | (have _t := q3; go_at_call 26; clear _t; go_loud (refine (box_any qn c5 A5 want _ (H3.out.getN (A := A5) (c := c5) (l := want) (by simp)) HQN.out (HB9.out _ _ HQO.out HQN.out) HQO.out.good).mono ?_; rintro e w4 ⟨b, X, Y, V, H, is, rfl, rb, sb, b4, bv⟩; have BV := Lib.hid (show BxV want want.length is X Y V H by rw [HQN.out]; exact bv); have hal := (Below.refl w4.heap.size w4).alloc (Nat.le_refl _) b.obj; have b5 := b4.trans (hal.mono b4.size); have H4 := Lib.hid (H3.out.step b5); have CS4 := Lib.hid (CS3.out.below b5); have PB := Lib.hid (heap_alloc_new w4 b.obj); have RB := Lib.hid (rb.next hal); have SB := Lib.hid sb; clear rb sb b4 bv hal b5; have q4 := q3; clear q3)))
 by_cases h0 : k = 0
 ·
  have hk0 : out = [] := List.length_eq_zero_iff.1 (by rw [HK.out]; exact h0)
  have hq0 : QuadOf [] want := by
   have h1 := ML.out
   rw [hk0] at h1
   have h2 := HQO.out
   rwa [← h1] at h2
  obtain ⟨rfl, rfl, rfl, rfl, rfl⟩ := box_none hq0 BV.out
  subst h0
  obtain ⟨z0, z1, z2, z3, z4, z5, z6, z7⟩ := Xb.cells PB.out
  clear hk0 hq0
  go_wp2_with (have _t := q4; go_at_call 28; clear _t; go_loud (refine (rxsame_any b xb0 0 0 0 0 0 0 0 0 _ RB.out ⟨bw0_r _, bw0_r _, bw0_r _, bw0_r _⟩ SB.out ⟨by simp [xb0, bw0], by simp [xb0, bw0], by simp [xb0, bw0], by simp [xb0, bw0]⟩).mono ?_; rintro e w6 ⟨rfl, b6⟩; rw [show decide ((0 : Int) = 0 ∧ (0 : Int) = 0 ∧ (0 : Int) = 0 ∧ (0 : Int) = 0) = true from rfl]; have H6 := Lib.hid (H4.out.step b6); clear b6; have q5 := q4; clear q4))
  go_ret
  exact ⟨rfl, H6.out.b⟩
 ·
  have t1 : ((k : Int) == 0) = false := beq_eq_false_iff_ne.2 (by omega)
  have H0 := Lib.hid h0
  clear h0 f5
  go_upto_region 11 with (have _t := q4; go_at_call 32; clear _t; go_loud (refine (rbof_any 1 _ (by omega) (by omega)).mono ?_; rintro e w5 h5; obtain ⟨o, rfl, ro, b5⟩ := retI_bw h5; have hal := (Below.refl w5.heap.size w5).alloc (Nat.le_refl _) o.obj; have b6 := b5.trans (hal.mono b5.size); have H5 := Lib.hid (H4.out.step b6); have CS5 := Lib.hid (CS4.out.below b6); have PB := Lib.hid ((b6.block _ (heapLt PB.out)).trans PB.out); have RB := Lib.hid (RB.out.next b6); have RO := Lib.hid ro.box; clear h5 ro b5 hal b6; have q5 := q4; clear q4))
  obtain ⟨gb, hgb⟩ : ∃ g, g = w4.heap.size := ⟨_, rfl⟩
  obtain ⟨go, hgo⟩ : ∃ g, g = w5.heap.size := ⟨_, rfl⟩
  obtain ⟨S, hS⟩ : ∃ S : World, S = (w5.alloc o.obj).drewN 1 := ⟨_, rfl⟩
  have hbd := below_drewN (Below.refl (w5.alloc o.obj).heap.size (w5.alloc o.obj)) 1
  rw [← hS] at hbd
  have PS := Lib.hid ((hbd.block _ (heapLt PB.out)).trans PB.out)
  have RS := Lib.hid (RB.out.next hbd)
  have OS := Lib.hid (RO.out.next hbd)
  have CS := Lib.hid (CS5.out.below hbd)
  have BS := Lib.hid (H5.out.b.trans (hbd.mono H5.out.b.size))
  rw [← hgb] at PS
  rw [← hgo] at OS
  rw [← hgb, ← hgo]
  clear hbd hgb hgo H1 H2 H3 H4 H5 CS3 CS4 CS5 PB RB RO HC3
  have bnd := Lib.hid (BxV.low HQO.out.good BV.out)
  have LB := Lib.hid (show ∀ (u : Bw) (W : World) (X : Int), u.R W X → -p2 1330 ≤ X → X ≤ p2 1330 → u.xs.length ≤ 50000 from fun u W X r h1 h2 => Nat.le_trans (bw_len r h1 h2) (by omega))
  have lo1 : o.xs.length ≤ 50000 := LB.out _ _ _ OS.out.r (by have := p2_pos 1330; omega) (by have := p2_pos 1330; omega)
  have HIN := Lib.hid (show ∀ c ∈ out.map Cv.cl, X ≤ c.x ∧ c.x ≤ X + V - 1 ∧ Y ≤ c.y ∧ c.y ≤ Y + H - 1 from around_in HQO.out ML.out (by have := H0.out; have := HK.out; intro e; rw [e] at this; simp at this; omega) BV.out)
  have SX := SB.out.x
  have SY := SB.out.y
  have SW := SB.out.w
  have SH := SB.out.h
  go_cut [9, 10] from 41 to 54 (fun s9 s10 wx => DfC S (X + V - 1) (Y + H - 1) s9 s10 wx)
  case first =>
   refine wp_normalOnly ?_
   refine wp_region_held (S := fun w' => w'.cell? ⟨gb, 0, none⟩ = some (.bool b.x.s) ∧ w'.cell? ⟨gb, 1, none⟩ = some (.slice b.x.a b.x.xs.length b.x.c) ∧ w'.cell? ⟨gb, 2, none⟩ = some (.bool b.y.s) ∧ w'.cell? ⟨gb, 3, none⟩ = some (.slice b.y.a b.y.xs.length b.y.c) ∧ w'.cell? ⟨gb, 4, none⟩ = some (.bool b.w.s) ∧ w'.cell? ⟨gb, 5, none⟩ = some (.slice b.w.a b.w.xs.length b.w.c) ∧ w'.cell? ⟨gb, 6, none⟩ = some (.bool b.h.s) ∧ w'.cell? ⟨gb, 7, none⟩ = some (.slice b.h.a b.h.xs.length b.h.c) ∧ w'.cell? ⟨go, 0, none⟩ = some (.bool o.s) ∧ w'.cell? ⟨go, 1, none⟩ = some (.slice o.a o.xs.length o.c)) (by kernel_rfl) ?_
   change wpAnyH _ _ _ _ _ _ _ _ ((w5.alloc o.obj).drewN 1)
   rw [← hS]
   clear hS
   have hS0 := around_cells PS.out OS.out (Below.refl _ _)
   refine wpAnyH_take (i := 0) (v := ?_) rfl (by kernel_rfl) (by kernel_rfl) (by kernel_rfl) (fun _ _ _ h => h) (Or.inl ⟨by rfl, ?_⟩) hS0 ?_
   rotate_left
   ·
    rintro w' ⟨s0_, s1_, s2_, s3_, s4_, s5_, s6_, s7_, s8_, s9_⟩
    go_simp
    first | done | with_reducible rfl | rfl
   simp only [Act.put, LA]
   refine wpAnyH_take (i := 1) (v := ?_) rfl (by kernel_rfl) (by kernel_rfl) (by kernel_rfl) (fun _ _ _ h => h) (Or.inl ⟨by rfl, ?_⟩) hS0 ?_
   rotate_left
   ·
    rintro w' ⟨s0_, s1_, s2_, s3_, s4_, s5_, s6_, s7_, s8_, s9_⟩
    go_simp
    first | done | with_reducible rfl | rfl
   simp only [Act.put, LA]
   refine wpAnyH_take (i := 2) (v := ?_) rfl (by kernel_rfl) (by kernel_rfl) (by kernel_rfl) (fun _ _ _ h => h) (Or.inl ⟨by rfl, ?_⟩) hS0 ?_
   rotate_left
   ·
    rintro w' ⟨s0_, s1_, s2_, s3_, s4_, s5_, s6_, s7_, s8_, s9_⟩
    go_simp
    first | done | with_reducible rfl | rfl
   simp only [Act.put, LA]
   refine wpAnyH_take (i := 3) (v := ?_) rfl (by kernel_rfl) (by kernel_rfl) (by kernel_rfl) (fun _ _ _ h => h) (Or.inl ⟨by rfl, ?_⟩) hS0 ?_
   rotate_left
   ·
    rintro w' ⟨s0_, s1_, s2_, s3_, s4_, s5_, s6_, s7_, s8_, s9_⟩
    go_simp
    first | done | with_reducible rfl | rfl
   simp only [Act.put, LA]
   refine wpAnyH_take (i := 5) (v := ?_) rfl (by kernel_rfl) (by kernel_rfl) (by kernel_rfl) (fun _ _ _ h => h) (Or.inl ⟨by rfl, ?_⟩) hS0 ?_
   rotate_left
   ·
    rintro w' ⟨s0_, s1_, s2_, s3_, s4_, s5_, s6_, s7_, s8_, s9_⟩
    go_simp
    first | done | with_reducible rfl | rfl
   simp only [Act.put, LA]
   refine wpAnyH_take (i := 7) (v := ?_) rfl (by kernel_rfl) (by kernel_rfl) (by kernel_rfl) (fun _ _ _ h => h) (Or.inl ⟨by rfl, ?_⟩) hS0 ?_
   rotate_left
   ·
    rintro w' ⟨s0_, s1_, s2_, s3_, s4_, s5_, s6_, s7_, s8_, s9_⟩
    go_simp
    first | done | with_reducible rfl | rfl
   simp only [Act.put, LA]
   refine wpAnyH_take (i := 8) (v := ?_) rfl (by kernel_rfl) (by kernel_rfl) (by kernel_rfl) (fun _ _ _ h => h) (Or.inl ⟨by rfl, ?_⟩) hS0 ?_
   rotate_left
   ·
    rintro w' ⟨s0_, s1_, s2_, s3_, s4_, s5_, s6_, s7_, s8_, s9_⟩
    go_simp
    first | done | with_reducible rfl | rfl
   simp only [Act.put, LA]
   refine wpAnyH_take (i := 9) (v := ?_) rfl (by kernel_rfl) (by kernel_rfl) (by kernel_rfl) (fun _ _ _ h => h) (Or.inl ⟨by rfl, ?_⟩) hS0 ?_
   rotate_left
   ·
    rintro w' ⟨s0_, s1_, s2_, s3_, s4_, s5_, s6_, s7_, s8_, s9_⟩
    go_simp
    first | done | with_reducible rfl | rfl
   simp only [Act.put, LA]
   refine wpAnyH_take (i := 10) (v := ?_) rfl (by kernel_rfl) (by kernel_rfl) (by kernel_rfl) (fun _ _ _ h => h) (Or.inl ⟨by rfl, ?_⟩) hS0 ?_
   rotate_left
   ·
    rintro w' ⟨s0_, s1_, s2_, s3_, s4_, s5_, s6_, s7_, s8_, s9_⟩
    go_simp
    first | done | with_reducible rfl | rfl
   simp only [Act.put, LA]
   refine wpAnyH_take (i := 12) (v := ?_) rfl (by kernel_rfl) (by kernel_rfl) (by kernel_rfl) (fun _ _ _ h => h) (Or.inl ⟨by rfl, ?_⟩) hS0 ?_
   rotate_left
   ·
    rintro w' ⟨s0_, s1_, s2_, s3_, s4_, s5_, s6_, s7_, s8_, s9_⟩
    go_simp
    first | done | with_reducible rfl | rfl
   simp only [Act.put, LA]
   refine wpAnyH_states2 (T := Nat × Bool × Bool) (fun x => (4 - x.1) + (if x.2.1 then 0 else 1) + (if x.2.2 then 0 else 1)) (fun x => #[true, true, true, true, decide (1 ≤ x.1), true, decide (2 ≤ x.1), true, true, true, true, decide (3 ≤ x.1), true, decide (4 ≤ x.1), x.2.1, x.2.2, false, false]) (fun x => (4 - x.1) + (if x.2.1 then 0 else 1) + (if x.2.2 then 0 else 1) + 2) (fun x a W => x.1 ≤ 4 ∧ ∃ v9 v10 t0 t1 t2 t3, a = { tmps := #[.slice A n c, undef, .bool false, .pointer (some ⟨w2.heap.size, 0, none⟩), .bool true, .slice A3 k c3, .pointer (some ⟨gb, 0, none⟩), .bool is, .pointer (some ⟨go, 0, none⟩), v9, v10, undef, undef, undef, .bool true, .bool false, .tuple #[.agg #[.slice A5 qn c5], .bool true], .slice A n c, .tuple #[.agg #[.slice A5 qn c5], .bool true], .agg #[.slice A5 qn c5], .bool true, .bool true, .bool false, .slice A n c, .slice A3 k c3, .tuple #[b.val, .bool is], .agg #[.slice A5 qn c5], .tuple #[b.val, .bool is], b.val, .bool is, .slice A3 k c3, .int .i64 (k : Int), .bool false, undef, undef, undef, undef, undef, undef, undef, o.val, .pointer (some ⟨gb, 0, none⟩), .agg #[.bool b.x.s, .slice b.x.a b.x.xs.length b.x.c], .pointer (some ⟨gb, 4, none⟩), .agg #[.bool b.w.s, .slice b.w.a b.w.xs.length b.w.c], t0, .agg #[.bool o.s, .slice o.a o.xs.length o.c], t1, .pointer (some ⟨gb, 2, none⟩), .agg #[.bool b.y.s, .slice b.y.a b.y.xs.length b.y.c], .pointer (some ⟨gb, 6, none⟩), .agg #[.bool b.h.s, .slice b.h.a b.h.xs.length b.h.c], t2, .agg #[.bool o.s, .slice o.a o.xs.length o.c], t3, undef, undef, undef, undef, undef, undef, undef, undef, undef, undef, undef, undef, undef, undef, undef, undef, undef, undef, undef, undef, undef, undef, undef, undef, undef, undef, undef, undef, undef, undef, undef, undef, undef, undef, undef, undef, undef, undef, undef, undef, undef, undef, undef, undef, undef, undef, undef, undef, undef, undef, undef, undef, undef, undef, undef, undef, undef, undef, undef, undef, undef, undef, undef, undef, undef, undef, undef, undef, undef, undef, undef, undef, undef, undef, undef, undef, undef, undef, undef, undef, undef, undef, undef, undef, undef, undef, undef, undef, undef, undef, undef, undef, undef], defers := [] } ∧ DfI S (X + V) (X + V - 1) (Y + H) (Y + H - 1) x.1 x.2.1 x.2.2 v9 v10 t0 t1 t2 t3 W) ?_ (0, false, false) _ _ (by kernel_rfl) (by kernel_rfl) _ _ ⟨by decide, undef, undef, undef, undef, undef, undef, rfl, DfI.start S (X + V) (X + V - 1) (Y + H) (Y + H - 1) undef undef undef undef undef undef⟩
   rintro ⟨j, p, q⟩ IH a W ⟨hj, v9, v10, t0, t1, t2, t3, rfl, hI⟩
   clear hS0
   dsimp only at hj hI ⊢
   obtain rfl | rfl | rfl | rfl | rfl : j = 0 ∨ j = 1 ∨ j = 2 ∨ j = 3 ∨ j = 4 := by omega
   ·
    cases p
    ·
     cases q
     ·
      refine wpAnyH_ready (rs := [4, 14, 15]) (by kernel_rfl) (by simp) (AllReadyH.cons rfl (fun K hK => ?_) (AllReadyH.cons rfl (fun K hK => ?_) (AllReadyH.cons rfl (fun K hK => ?_) AllReadyH.nil)))
      ·
       go_simp
       refine (rbadd_any b.x.s b.w.s b.x.a b.w.a b.x.c b.w.c b.x.xs b.w.xs _ (RS.out.x.next hI.b).us (RS.out.w.next hI.b).us (by omega) (by omega)).mono ?_
       rintro e w2 h_
       obtain ⟨u, rfl, r_, b_⟩ := retI_bw h_
       rw [RS.out.x.v, RS.out.w.v] at r_
       have hN := hI.call0 r_ b_
       dsimp only
       refine hK.out _ _ (around_cells PS.out OS.out hN.b) (fun _ => ?_)
       exact IH (1, false, false) _ _ (by decide) (by kernel_rfl) (by kernel_rfl) _ _ ⟨by decide, _, _, _, _, _, _, rfl, hN⟩
      ·
       go_simp
       refine hK.out _ _ (around_cells PS.out OS.out hI.allocP.b) (fun _ => ?_)
       exact IH (0, true, false) _ _ (by decide) (by kernel_rfl) (by kernel_rfl) _ _ ⟨by decide, _, _, _, _, _, _, rfl, hI.allocP⟩
      ·
       go_simp
       refine hK.out _ _ (around_cells PS.out OS.out hI.allocQ.b) (fun _ => ?_)
       exact IH (0, false, true) _ _ (by decide) (by kernel_rfl) (by kernel_rfl) _ _ ⟨by decide, _, _, _, _, _, _, rfl, hI.allocQ⟩
     ·
      refine wpAnyH_ready (rs := [4, 14]) (by kernel_rfl) (by simp) (AllReadyH.cons rfl (fun K hK => ?_) (AllReadyH.cons rfl (fun K hK => ?_) AllReadyH.nil))
      ·
       go_simp
       refine (rbadd_any b.x.s b.w.s b.x.a b.w.a b.x.c b.w.c b.x.xs b.w.xs _ (RS.out.x.next hI.b).us (RS.out.w.next hI.b).us (by omega) (by omega)).mono ?_
       rintro e w2 h_
       obtain ⟨u, rfl, r_, b_⟩ := retI_bw h_
       rw [RS.out.x.v, RS.out.w.v] at r_
       have hN := hI.call0 r_ b_
       dsimp only
       refine hK.out _ _ (around_cells PS.out OS.out hN.b) (fun _ => ?_)
       exact IH (1, false, true) _ _ (by decide) (by kernel_rfl) (by kernel_rfl) _ _ ⟨by decide, _, _, _, _, _, _, rfl, hN⟩
      ·
       go_simp
       refine hK.out _ _ (around_cells PS.out OS.out hI.allocP.b) (fun _ => ?_)
       exact IH (0, true, true) _ _ (by decide) (by kernel_rfl) (by kernel_rfl) _ _ ⟨by decide, _, _, _, _, _, _, rfl, hI.allocP⟩
    ·
     cases q
     ·
      refine wpAnyH_ready (rs := [4, 15]) (by kernel_rfl) (by simp) (AllReadyH.cons rfl (fun K hK => ?_) (AllReadyH.cons rfl (fun K hK => ?_) AllReadyH.nil))
      ·
       go_simp
       refine (rbadd_any b.x.s b.w.s b.x.a b.w.a b.x.c b.w.c b.x.xs b.w.xs _ (RS.out.x.next hI.b).us (RS.out.w.next hI.b).us (by omega) (by omega)).mono ?_
       rintro e w2 h_
       obtain ⟨u, rfl, r_, b_⟩ := retI_bw h_
       rw [RS.out.x.v, RS.out.w.v] at r_
       have hN := hI.call0 r_ b_
       dsimp only
       refine hK.out _ _ (around_cells PS.out OS.out hN.b) (fun _ => ?_)
       exact IH (1, true, false) _ _ (by decide) (by kernel_rfl) (by kernel_rfl) _ _ ⟨by decide, _, _, _, _, _, _, rfl, hN⟩
      ·
       go_simp
       refine hK.out _ _ (around_cells PS.out OS.out hI.allocQ.b) (fun _ => ?_)
       exact IH (0, true, true) _ _ (by decide) (by kernel_rfl) (by kernel_rfl) _ _ ⟨by decide, _, _, _, _, _, _, rfl, hI.allocQ⟩
     ·
      refine wpAnyH_ready (rs := [4]) (by kernel_rfl) (by simp) (AllReadyH.cons rfl (fun K hK => ?_) AllReadyH.nil)
      ·
       go_simp
       refine (rbadd_any b.x.s b.w.s b.x.a b.w.a b.x.c b.w.c b.x.xs b.w.xs _ (RS.out.x.next hI.b).us (RS.out.w.next hI.b).us (by omega) (by omega)).mono ?_
       rintro e w2 h_
       obtain ⟨u, rfl, r_, b_⟩ := retI_bw h_
       rw [RS.out.x.v, RS.out.w.v] at r_
       have hN := hI.call0 r_ b_
       dsimp only
       refine hK.out _ _ (around_cells PS.out OS.out hN.b) (fun _ => ?_)
       exact IH (1, true, true) _ _ (by decide) (by kernel_rfl) (by kernel_rfl) _ _ ⟨by decide, _, _, _, _, _, _, rfl, hN⟩
   ·
    cases p
    ·
     cases q
     ·
      refine wpAnyH_ready (rs := [6, 14, 15]) (by kernel_rfl) (by simp) (AllReadyH.cons rfl (fun K hK => ?_) (AllReadyH.cons rfl (fun K hK => ?_) (AllReadyH.cons rfl (fun K hK => ?_) AllReadyH.nil)))
      ·
       go_simp
       obtain ⟨u0, e0, r0⟩ := hI.c0 (by omega); subst e0
       refine (rbsub_any u0.s o.s u0.a o.a u0.c o.c u0.xs o.xs _ r0.us (OS.out.r.next hI.b).us (Nat.le_trans (LB.out _ _ _ r0 (by have := bnd.out; omega) (by have := bnd.out; omega)) (by omega)) (by omega)).mono ?_
       rintro e w2 h_
       obtain ⟨u, rfl, r_, b_⟩ := retI_bw h_
       rw [r0.v, OS.out.r.v] at r_
       have hN := hI.call1 r_ b_
       dsimp only
       refine hK.out _ _ (around_cells PS.out OS.out hN.b) (fun _ => ?_)
       exact IH (2, false, false) _ _ (by decide) (by kernel_rfl) (by kernel_rfl) _ _ ⟨by decide, _, _, _, _, _, _, rfl, hN⟩
      ·
       go_simp
       refine hK.out _ _ (around_cells PS.out OS.out hI.allocP.b) (fun _ => ?_)
       exact IH (1, true, false) _ _ (by decide) (by kernel_rfl) (by kernel_rfl) _ _ ⟨by decide, _, _, _, _, _, _, rfl, hI.allocP⟩
      ·
       go_simp
       refine hK.out _ _ (around_cells PS.out OS.out hI.allocQ.b) (fun _ => ?_)
       exact IH (1, false, true) _ _ (by decide) (by kernel_rfl) (by kernel_rfl) _ _ ⟨by decide, _, _, _, _, _, _, rfl, hI.allocQ⟩
     ·
      refine wpAnyH_ready (rs := [6, 14]) (by kernel_rfl) (by simp) (AllReadyH.cons rfl (fun K hK => ?_) (AllReadyH.cons rfl (fun K hK => ?_) AllReadyH.nil))
      ·
       go_simp
       obtain ⟨u0, e0, r0⟩ := hI.c0 (by omega); subst e0
       refine (rbsub_any u0.s o.s u0.a o.a u0.c o.c u0.xs o.xs _ r0.us (OS.out.r.next hI.b).us (Nat.le_trans (LB.out _ _ _ r0 (by have := bnd.out; omega) (by have := bnd.out; omega)) (by omega)) (by omega)).mono ?_
       rintro e w2 h_
       obtain ⟨u, rfl, r_, b_⟩ := retI_bw h_
       rw [r0.v, OS.out.r.v] at r_
       have hN := hI.call1 r_ b_
       dsimp only
       refine hK.out _ _ (around_cells PS.out OS.out hN.b) (fun _ => ?_)
       exact IH (2, false, true) _ _ (by decide) (by kernel_rfl) (by kernel_rfl) _ _ ⟨by decide, _, _, _, _, _, _, rfl, hN⟩
      ·
       go_simp
       refine hK.out _ _ (around_cells PS.out OS.out hI.allocP.b) (fun _ => ?_)
       exact IH (1, true, true) _ _ (by decide) (by kernel_rfl) (by kernel_rfl) _ _ ⟨by decide, _, _, _, _, _, _, rfl, hI.allocP⟩
    ·
     cases q
     ·
      refine wpAnyH_ready (rs := [6, 15]) (by kernel_rfl) (by simp) (AllReadyH.cons rfl (fun K hK => ?_) (AllReadyH.cons rfl (fun K hK => ?_) AllReadyH.nil))
      ·
       go_simp
       obtain ⟨u0, e0, r0⟩ := hI.c0 (by omega); subst e0
       refine (rbsub_any u0.s o.s u0.a o.a u0.c o.c u0.xs o.xs _ r0.us (OS.out.r.next hI.b).us (Nat.le_trans (LB.out _ _ _ r0 (by have := bnd.out; omega) (by have := bnd.out; omega)) (by omega)) (by omega)).mono ?_
       rintro e w2 h_
       obtain ⟨u, rfl, r_, b_⟩ := retI_bw h_
       rw [r0.v, OS.out.r.v] at r_
       have hN := hI.call1 r_ b_
       dsimp only
       refine hK.out _ _ (around_cells PS.out OS.out hN.b) (fun _ => ?_)
       exact IH (2, true, false) _ _ (by decide) (by kernel_rfl) (by kernel_rfl) _ _ ⟨by decide, _, _, _, _, _, _, rfl, hN⟩
      ·
       go_simp
       refine hK.out _ _ (around_cells PS.out OS.out hI.allocQ.b) (fun _ => ?_)
       exact IH (1, true, true) _ _ (by decide) (by kernel_rfl) (by kernel_rfl) _ _ ⟨by decide, _, _, _, _, _, _, rfl, hI.allocQ⟩
     ·
      refine wpAnyH_ready (rs := [6]) (by kernel_rfl) (by simp) (AllReadyH.cons rfl (fun K hK => ?_) AllReadyH.nil)
      ·
       go_simp
       obtain ⟨u0, e0, r0⟩ := hI.c0 (by omega); subst e0
       refine (rbsub_any u0.s o.s u0.a o.a u0.c o.c u0.xs o.xs _ r0.us (OS.out.r.next hI.b).us (Nat.le_trans (LB.out _ _ _ r0 (by have := bnd.out; omega) (by have := bnd.out; omega)) (by omega)) (by omega)).mono ?_
       rintro e w2 h_
       obtain ⟨u, rfl, r_, b_⟩ := retI_bw h_
       rw [r0.v, OS.out.r.v] at r_
       have hN := hI.call1 r_ b_
       dsimp only
       refine hK.out _ _ (around_cells PS.out OS.out hN.b) (fun _ => ?_)
       exact IH (2, true, true) _ _ (by decide) (by kernel_rfl) (by kernel_rfl) _ _ ⟨by decide, _, _, _, _, _, _, rfl, hN⟩
   ·
    cases p
    ·
     cases q
     ·
      refine wpAnyH_ready (rs := [11, 14, 15]) (by kernel_rfl) (by simp) (AllReadyH.cons rfl (fun K hK => ?_) (AllReadyH.cons rfl (fun K hK => ?_) (AllReadyH.cons rfl (fun K hK => ?_) AllReadyH.nil)))
      ·
       go_simp
       refine (rbadd_any b.y.s b.h.s b.y.a b.h.a b.y.c b.h.c b.y.xs b.h.xs _ (RS.out.y.next hI.b).us (RS.out.h.next hI.b).us (by omega) (by omega)).mono ?_
       rintro e w2 h_
       obtain ⟨u, rfl, r_, b_⟩ := retI_bw h_
       rw [RS.out.y.v, RS.out.h.v] at r_
       have hN := hI.call2 r_ b_
       dsimp only
       refine hK.out _ _ (around_cells PS.out OS.out hN.b) (fun _ => ?_)
       exact IH (3, false, false) _ _ (by decide) (by kernel_rfl) (by kernel_rfl) _ _ ⟨by decide, _, _, _, _, _, _, rfl, hN⟩
      ·
       go_simp
       refine hK.out _ _ (around_cells PS.out OS.out hI.allocP.b) (fun _ => ?_)
       exact IH (2, true, false) _ _ (by decide) (by kernel_rfl) (by kernel_rfl) _ _ ⟨by decide, _, _, _, _, _, _, rfl, hI.allocP⟩
      ·
       go_simp
       refine hK.out _ _ (around_cells PS.out OS.out hI.allocQ.b) (fun _ => ?_)
       exact IH (2, false, true) _ _ (by decide) (by kernel_rfl) (by kernel_rfl) _ _ ⟨by decide, _, _, _, _, _, _, rfl, hI.allocQ⟩
     ·
      refine wpAnyH_ready (rs := [11, 14]) (by kernel_rfl) (by simp) (AllReadyH.cons rfl (fun K hK => ?_) (AllReadyH.cons rfl (fun K hK => ?_) AllReadyH.nil))
      ·
       go_simp
       refine (rbadd_any b.y.s b.h.s b.y.a b.h.a b.y.c b.h.c b.y.xs b.h.xs _ (RS.out.y.next hI.b).us (RS.out.h.next hI.b).us (by omega) (by omega)).mono ?_
       rintro e w2 h_
       obtain ⟨u, rfl, r_, b_⟩ := retI_bw h_
       rw [RS.out.y.v, RS.out.h.v] at r_
       have hN := hI.call2 r_ b_
       dsimp only
       refine hK.out _ _ (around_cells PS.out OS.out hN.b) (fun _ => ?_)
       exact IH (3, false, true) _ _ (by decide) (by kernel_rfl) (by kernel_rfl) _ _ ⟨by decide, _, _, _, _, _, _, rfl, hN⟩
      ·
       go_simp
       refine hK.out _ _ (around_cells PS.out OS.out hI.allocP.b) (fun _ => ?_)
       exact IH (2, true, true) _ _ (by decide) (by kernel_rfl) (by kernel_rfl) _ _ ⟨by decide, _, _, _, _, _, _, rfl, hI.allocP⟩
    ·
     cases q
     ·
      refine wpAnyH_ready (rs := [11, 15]) (by kernel_rfl) (by simp) (AllReadyH.cons rfl (fun K hK => ?_) (AllReadyH.cons rfl (fun K hK => ?_) AllReadyH.nil))
      ·
       go_simp
       refine (rbadd_any b.y.s b.h.s b.y.a b.h.a b.y.c b.h.c b.y.xs b.h.xs _ (RS.out.y.next hI.b).us (RS.out.h.next hI.b).us (by omega) (by omega)).mono ?_
       rintro e w2 h_
       obtain ⟨u, rfl, r_, b_⟩ := retI_bw h_
       rw [RS.out.y.v, RS.out.h.v] at r_
       have hN := hI.call2 r_ b_
       dsimp only
       refine hK.out _ _ (around_cells PS.out OS.out hN.b) (fun _ => ?_)
       exact IH (3, true, false) _ _ (by decide) (by kernel_rfl) (by kernel_rfl) _ _ ⟨by decide, _, _, _, _, _, _, rfl, hN⟩
      ·
       go_simp
       refine hK.out _ _ (around_cells PS.out OS.out hI.allocQ.b) (fun _ => ?_)
       exact IH (2, true, true) _ _ (by decide) (by kernel_rfl) (by kernel_rfl) _ _ ⟨by decide, _, _, _, _, _, _, rfl, hI.allocQ⟩
     ·
      refine wpAnyH_ready (rs := [11]) (by kernel_rfl) (by simp) (AllReadyH.cons rfl (fun K hK => ?_) AllReadyH.nil)
      ·
       go_simp
       refine (rbadd_any b.y.s b.h.s b.y.a b.h.a b.y.c b.h.c b.y.xs b.h.xs _ (RS.out.y.next hI.b).us (RS.out.h.next hI.b).us (by omega) (by omega)).mono ?_
       rintro e w2 h_
       obtain ⟨u, rfl, r_, b_⟩ := retI_bw h_
       rw [RS.out.y.v, RS.out.h.v] at r_
       have hN := hI.call2 r_ b_
       dsimp only
       refine hK.out _ _ (around_cells PS.out OS.out hN.b) (fun _ => ?_)
       exact IH (3, true, true) _ _ (by decide) (by kernel_rfl) (by kernel_rfl) _ _ ⟨by decide, _, _, _, _, _, _, rfl, hN⟩
   ·
    cases p
    ·
     cases q
     ·
      refine wpAnyH_ready (rs := [13, 14, 15]) (by kernel_rfl) (by simp) (AllReadyH.cons rfl (fun K hK => ?_) (AllReadyH.cons rfl (fun K hK => ?_) (AllReadyH.cons rfl (fun K hK => ?_) AllReadyH.nil)))
      ·
       go_simp
       obtain ⟨u0, e0, r0⟩ := hI.c2 (by omega); subst e0
       refine (rbsub_any u0.s o.s u0.a o.a u0.c o.c u0.xs o.xs _ r0.us (OS.out.r.next hI.b).us (Nat.le_trans (LB.out _ _ _ r0 (by have := bnd.out; omega) (by have := bnd.out; omega)) (by omega)) (by omega)).mono ?_
       rintro e w2 h_
       obtain ⟨u, rfl, r_, b_⟩ := retI_bw h_
       rw [r0.v, OS.out.r.v] at r_
       have hN := hI.call3 r_ b_
       dsimp only
       refine hK.out _ _ (around_cells PS.out OS.out hN.b) (fun _ => ?_)
       exact IH (4, false, false) _ _ (by decide) (by kernel_rfl) (by kernel_rfl) _ _ ⟨by decide, _, _, _, _, _, _, rfl, hN⟩
      ·
       go_simp
       refine hK.out _ _ (around_cells PS.out OS.out hI.allocP.b) (fun _ => ?_)
       exact IH (3, true, false) _ _ (by decide) (by kernel_rfl) (by kernel_rfl) _ _ ⟨by decide, _, _, _, _, _, _, rfl, hI.allocP⟩
      ·
       go_simp
       refine hK.out _ _ (around_cells PS.out OS.out hI.allocQ.b) (fun _ => ?_)
       exact IH (3, false, true) _ _ (by decide) (by kernel_rfl) (by kernel_rfl) _ _ ⟨by decide, _, _, _, _, _, _, rfl, hI.allocQ⟩
     ·
      refine wpAnyH_ready (rs := [13, 14]) (by kernel_rfl) (by simp) (AllReadyH.cons rfl (fun K hK => ?_) (AllReadyH.cons rfl (fun K hK => ?_) AllReadyH.nil))
      ·
       go_simp
       obtain ⟨u0, e0, r0⟩ := hI.c2 (by omega); subst e0
       refine (rbsub_any u0.s o.s u0.a o.a u0.c o.c u0.xs o.xs _ r0.us (OS.out.r.next hI.b).us (Nat.le_trans (LB.out _ _ _ r0 (by have := bnd.out; omega) (by have := bnd.out; omega)) (by omega)) (by omega)).mono ?_
       rintro e w2 h_
       obtain ⟨u, rfl, r_, b_⟩ := retI_bw h_
       rw [r0.v, OS.out.r.v] at r_
       have hN := hI.call3 r_ b_
       dsimp only
       refine hK.out _ _ (around_cells PS.out OS.out hN.b) (fun _ => ?_)
       exact IH (4, false, true) _ _ (by decide) (by kernel_rfl) (by kernel_rfl) _ _ ⟨by decide, _, _, _, _, _, _, rfl, hN⟩
      ·
       go_simp
       refine hK.out _ _ (around_cells PS.out OS.out hI.allocP.b) (fun _ => ?_)
       exact IH (3, true, true) _ _ (by decide) (by kernel_rfl) (by kernel_rfl) _ _ ⟨by decide, _, _, _, _, _, _, rfl, hI.allocP⟩
    ·
     cases q
     ·
      refine wpAnyH_ready (rs := [13, 15]) (by kernel_rfl) (by simp) (AllReadyH.cons rfl (fun K hK => ?_) (AllReadyH.cons rfl (fun K hK => ?_) AllReadyH.nil))
      ·
       go_simp
       obtain ⟨u0, e0, r0⟩ := hI.c2 (by omega); subst e0
       refine (rbsub_any u0.s o.s u0.a o.a u0.c o.c u0.xs o.xs _ r0.us (OS.out.r.next hI.b).us (Nat.le_trans (LB.out _ _ _ r0 (by have := bnd.out; omega) (by have := bnd.out; omega)) (by omega)) (by omega)).mono ?_
       rintro e w2 h_
       obtain ⟨u, rfl, r_, b_⟩ := retI_bw h_
       rw [r0.v, OS.out.r.v] at r_
       have hN := hI.call3 r_ b_
       dsimp only
       refine hK.out _ _ (around_cells PS.out OS.out hN.b) (fun _ => ?_)
       exact IH (4, true, false) _ _ (by decide) (by kernel_rfl) (by kernel_rfl) _ _ ⟨by decide, _, _, _, _, _, _, rfl, hN⟩
      ·
       go_simp
       refine hK.out _ _ (around_cells PS.out OS.out hI.allocQ.b) (fun _ => ?_)
       exact IH (3, true, true) _ _ (by decide) (by kernel_rfl) (by kernel_rfl) _ _ ⟨by decide, _, _, _, _, _, _, rfl, hI.allocQ⟩
     ·
      refine wpAnyH_ready (rs := [13]) (by kernel_rfl) (by simp) (AllReadyH.cons rfl (fun K hK => ?_) AllReadyH.nil)
      ·
       go_simp
       obtain ⟨u0, e0, r0⟩ := hI.c2 (by omega); subst e0
       refine (rbsub_any u0.s o.s u0.a o.a u0.c o.c u0.xs o.xs _ r0.us (OS.out.r.next hI.b).us (Nat.le_trans (LB.out _ _ _ r0 (by have := bnd.out; omega) (by have := bnd.out; omega)) (by omega)) (by omega)).mono ?_
       rintro e w2 h_
       obtain ⟨u, rfl, r_, b_⟩ := retI_bw h_
       rw [r0.v, OS.out.r.v] at r_
       have hN := hI.call3 r_ b_
       dsimp only
       refine hK.out _ _ (around_cells PS.out OS.out hN.b) (fun _ => ?_)
       exact IH (4, true, true) _ _ (by decide) (by kernel_rfl) (by kernel_rfl) _ _ ⟨by decide, _, _, _, _, _, _, rfl, hN⟩
   ·
    cases p
    ·
     cases q
     ·
      refine wpAnyH_ready (rs := [14, 15]) (by kernel_rfl) (by simp) (AllReadyH.cons rfl (fun K hK => ?_) (AllReadyH.cons rfl (fun K hK => ?_) AllReadyH.nil))
      ·
       go_simp
       refine hK.out _ _ (around_cells PS.out OS.out hI.allocP.b) (fun _ => ?_)
       exact IH (4, true, false) _ _ (by decide) (by kernel_rfl) (by kernel_rfl) _ _ ⟨by decide, _, _, _, _, _, _, rfl, hI.allocP⟩
      ·
       go_simp
       refine hK.out _ _ (around_cells PS.out OS.out hI.allocQ.b) (fun _ => ?_)
       exact IH (4, false, true) _ _ (by decide) (by kernel_rfl) (by kernel_rfl) _ _ ⟨by decide, _, _, _, _, _, _, rfl, hI.allocQ⟩
     ·
      refine wpAnyH_ready (rs := [14]) (by kernel_rfl) (by simp) (AllReadyH.cons rfl (fun K hK => ?_) AllReadyH.nil)
      ·
       go_simp
       refine hK.out _ _ (around_cells PS.out OS.out hI.allocP.b) (fun _ => ?_)
       exact IH (4, true, true) _ _ (by decide) (by kernel_rfl) (by kernel_rfl) _ _ ⟨by decide, _, _, _, _, _, _, rfl, hI.allocP⟩
    ·
     cases q
     ·
      refine wpAnyH_ready (rs := [15]) (by kernel_rfl) (by simp) (AllReadyH.cons rfl (fun K hK => ?_) AllReadyH.nil)
      ·
       go_simp
       refine hK.out _ _ (around_cells PS.out OS.out hI.allocQ.b) (fun _ => ?_)
       exact IH (4, true, true) _ _ (by decide) (by kernel_rfl) (by kernel_rfl) _ _ ⟨by decide, _, _, _, _, _, _, rfl, hI.allocQ⟩
     ·
      obtain ⟨g9, g10, u, v, rfl, rfl, ea, eb, z4, z5, m9, m10, hC⟩ := df_last hI.b (hI.s9 rfl) (hI.s10 rfl) (hI.ne rfl rfl) (hI.c1 (by omega)) (hI.c3 (by omega))
      subst ea
      subst eb
      have HC := Lib.hid hC
      have HB_ := Lib.hid hI.b
      have Z5 := Lib.hid z5
      obtain ⟨d0, d1, f0, f1⟩ := zero_cells z4
      clear hI hC IH z4 z5
      refine wpAnyH_ready (rs := [16]) (by kernel_rfl) (by simp) (AllReadyH.cons rfl (fun K hK => ?_) AllReadyH.nil)
      go_simp
      have b9 := below_put1 HB_.out m9 u
      have hS8 := around_cells PS.out OS.out b9
      dsimp only [put1] at hS8
      refine hK.out _ _ hS8 (fun _ => ?_)
      clear hK K d0 d1 f0 f1 hS8
      change wpAnyH _ _ _ _ _ _ _ _ (put1 W g9 u)
      generalize put1 W g9 u = W9 at *
      obtain ⟨d0, d1, f0, f1⟩ := zero_cells Z5.out
      refine wpAnyH_ready (rs := [17]) (by kernel_rfl) (by simp) (AllReadyH.cons rfl (fun K hK => ?_) AllReadyH.nil)
      go_simp
      have b10 := below_put1 b9 m10 v
      have hS9 := around_cells PS.out OS.out b10
      dsimp only [put1] at hS9
      refine hK.out _ _ hS9 (fun _ => ?_)
      clear hK K d0 d1 f0 f1 hS9
      refine wpAnyH_done (by kernel_rfl) ?_ _
      unfold NormalOnly
      go_wp2_with fail
      go_meet
      exact HC.out
  case rest =>
   rename World => WS
   obtain ⟨g9, g10, ue, vs, rfl, rfl, kE, kS, bC, hne, m9, m10⟩ := hcut
   have PC := Lib.hid ((bC.block _ (heapLt PS.out)).trans PS.out)
   have RC := Lib.hid (RS.out.next bC)
   have CC := Lib.hid (CS.out.below bC)
   have BC := Lib.hid (BS.out.trans (bC.mono BS.out.size))
   have KE := Lib.hid kE
   have KS := Lib.hid kS
   have hbt := (Below.refl WS.heap.size WS).alloc (Nat.le_refl _) (.cells #[.bool false, .bool false, .bool false, .bool false] 59)
   obtain ⟨gt, hgt⟩ : ∃ g, g = WS.heap.size := ⟨_, rfl⟩
   have J0 := Lib.hid (show ArJ WS gt (metB Cl.x X out 0) (metB Cl.x (X + V - 1) out 0) (metB Cl.y Y out 0) (metB Cl.y (Y + H - 1) out 0) (WS.alloc (.cells #[.bool false, .bool false, .bool false, .bool false] 59)) from ⟨hbt, by rw [hgt]; exact heap_alloc_new WS _, by omega⟩)
   have LE := LB.out _ _ _ kE.r (by have := bnd.out; omega) (by have := bnd.out; omega)
   have LF := LB.out _ _ _ kS.r (by have := bnd.out; omega) (by have := bnd.out; omega)
   clear kE kS bC hne m9 m10 PS RS CS BS OS hbt
   go_wp2_with fail
   rw [← hgt]
   clear hgt
   go_loopw [12] (fun z wr => ∃ i : Nat, i ≤ k ∧ z = .int .i64 i ∧ ArJ WS gt (metB Cl.x X out i) (metB Cl.x (X + V - 1) out i) (metB Cl.y Y out i) (metB Cl.y (Y + H - 1) out i) wr) (fun z _ => k - (intOf z).toNat)
   case atStart => exact ⟨0, Nat.zero_le _, rfl, J0.out⟩
   case round =>
    obtain ⟨i, hik, rfl, hj⟩ := hrel
    have J := Lib.hid hj
    clear hj
    by_cases hlt : i < k
    ·
     have i1 : (i : Int) < (k : Int) := by omega
     have i2 : (0 : Int) ≤ (i : Int) := by omega
     have t1 : decide ((i : Int) < (k : Int)) = true := decide_eq_true i1
     obtain ⟨b3, off, rfl, hb3, hc3⟩ := CC.out.at_ (by rw [HK.out]; omega)
     have hcv := (hc3 i (by rw [HK.out]; exact hlt)).below (J.out.b.block b3 hb3)
     have hcu := CC.out.1 _ (cat_mem (i := i) (l := out) (by rw [HK.out]; exact hlt))
     have hcr := IN.out _ (cat_mem (i := i) (l := out) (by rw [HK.out]; exact hlt))
     have hs0 : metB Cl.x X out (i + 1) = (metB Cl.x X out i || decide ((cat out i).cl.x = X)) := met_succ (by rw [HK.out]; exact hlt)
     have hs1 : metB Cl.x (X + V - 1) out (i + 1) = (metB Cl.x (X + V - 1) out i || decide ((cat out i).cl.x = X + V - 1)) := met_succ (by rw [HK.out]; exact hlt)
     have hs2 : metB Cl.y Y out (i + 1) = (metB Cl.y Y out i || decide ((cat out i).cl.y = Y)) := met_succ (by rw [HK.out]; exact hlt)
     have hs3 : metB Cl.y (Y + H - 1) out (i + 1) = (metB Cl.y (Y + H - 1) out i || decide ((cat out i).cl.y = Y + H - 1)) := met_succ (by rw [HK.out]; exact hlt)
     have hin := HIN.out _ (List.mem_map_of_mem (f := Cv.cl) (cat_mem (i := i) (l := out) (by rw [HK.out]; exact hlt)))
     generalize cat out i = u at hcv hcu hcr hs0 hs1 hs2 hs3 hin
     obtain ⟨x, hx⟩ : ∃ x, x = u.cl.x := ⟨_, rfl⟩
     obtain ⟨y, hy⟩ : ∃ y, y = u.cl.y := ⟨_, rfl⟩
     rw [← hx] at hs0 hs1 hin
     rw [← hy] at hs2 hs3 hin
     have RU := Lib.hid (show (⟨u.sx, u.ax, u.cx, u.xs⟩ : Bw).R WS x from ⟨hcu.1, hcr.1, hx.symm⟩)
     have RV := Lib.hid (show (⟨u.sy, u.ay, u.cy, u.ys⟩ : Bw).R WS y from ⟨hcu.2.1, hcr.2.1, hy.symm⟩)
     have lu := hcr.2.2.1
     have lv := hcr.2.2.2
     have cpu := hcu.1.cap
     have cpv := hcu.2.1.cap
     have HS0 := Lib.hid hs0
     have HS1 := Lib.hid hs1
     have HS2 := Lib.hid hs2
     have HS3 := Lib.hid hs3
     have HLT := Lib.hid hlt
     obtain ⟨f0, f1, f2, f3, f4⟩ := hcv
     generalize ha0 : metB Cl.x X out i = a0 at *
     generalize ha1 : metB Cl.x (X + V - 1) out i = a1 at *
     generalize ha2 : metB Cl.y Y out i = a2 at *
     generalize ha3 : metB Cl.y (Y + H - 1) out i = a3 at *
     obtain ⟨r1, hr1⟩ : ∃ r, r = ordI x X := ⟨_, rfl⟩
     obtain ⟨r2, hr2⟩ : ∃ r, r = ordI x (X + V - 1) := ⟨_, rfl⟩
     obtain ⟨r3, hr3⟩ : ∃ r, r = ordI y Y := ⟨_, rfl⟩
     obtain ⟨r4, hr4⟩ : ∃ r, r = ordI y (Y + H - 1) := ⟨_, rfl⟩
     have p1 : decide (r1 < 0) = false := by rw [hr1]; exact decide_eq_false (ord_ge9 hin.1)
     have p2_ : decide (r2 > 0) = false := by rw [hr2]; exact decide_eq_false (ord_le9 hin.2.1)
     have p2' : decide (0 < r2) = false := p2_
     have p3 : decide (r3 < 0) = false := by rw [hr3]; exact decide_eq_false (ord_ge9 hin.2.2.1)
     have p4 : decide (r4 > 0) = false := by rw [hr4]; exact decide_eq_false (ord_le9 hin.2.2.2)
     have p4' : decide (0 < r4) = false := p4
     have HR1 := Lib.hid hr1
     have HR2 := Lib.hid hr2
     have HR3 := Lib.hid hr3
     have HR4 := Lib.hid hr4
     have bu := (Below.refl wr.heap.size wr).alloc (Nat.le_refl _) (cellO u)
     have N0 := Lib.hid (J.out.next bu)
     have G0 := Lib.hid (heap_alloc_new wr (cellO u))
     obtain ⟨d0, d1, d2, d3⟩ := five_cells G0.out
     obtain ⟨e0, e1, e2, e3, e4, e5, e6, e7⟩ := ar_cells PC.out KE.out KS.out N0.out.b
     have s0 : True := trivial
     clear hc3 hb3 hcu hcr hs0 hs1 hs2 hs3 hin hx hy ha0 ha1 ha2 ha3 hr1 hr2 hr3 hr4 bu hlt
     go_upto_region 19 with (first
   | (have _t := s0; go_at_call 35; clear _t; go_loud (refine (rbcmp_any u.sx b.x.s u.ax b.x.a u.cx b.x.c u.xs b.x.xs _ (RU.out.next N0.out.b).us (RC.out.x.next N0.out.b).us (by omega) (by omega)).mono ?_; rintro en v1 ⟨rfl, b_⟩; rw [(RU.out.next N0.out.b).v, (RC.out.x.next N0.out.b).v, ← HR1.out]; have N1 := Lib.hid (N0.out.next b_); have G1 := Lib.hid ((b_.block _ (heapLt G0.out)).trans G0.out); clear b_ d0 d1 d2 d3 e0 e1 e2 e3 e4 e5 e6 e7; obtain ⟨d0, d1, d2, d3⟩ := five_cells G1.out; obtain ⟨e0, e1, e2, e3, e4, e5, e6, e7⟩ := ar_cells PC.out KE.out KS.out N1.out.b; have s1 := s0; clear s0))
   | (have _t := s1; go_at_call 35; clear _t; go_loud (refine (rbcmp_any u.sx ue.s u.ax ue.a u.cx ue.c u.xs ue.xs _ (RU.out.next N1.out.b).us (KE.out.r.next N1.out.b).us (by omega) (by omega)).mono ?_; rintro en v2 ⟨rfl, b_⟩; rw [(RU.out.next N1.out.b).v, (KE.out.r.next N1.out.b).v, ← HR2.out]; have N2 := Lib.hid (N1.out.next b_); have G2 := Lib.hid ((b_.block _ (heapLt G1.out)).trans G1.out); clear b_ d0 d1 d2 d3 e0 e1 e2 e3 e4 e5 e6 e7; obtain ⟨d0, d1, d2, d3⟩ := five_cells G2.out; obtain ⟨e0, e1, e2, e3, e4, e5, e6, e7⟩ := ar_cells PC.out KE.out KS.out N2.out.b; have s2 := s1; clear s1))
   | (have _t := s2; go_at_call 35; clear _t; go_loud (refine (rbcmp_any u.sy b.y.s u.ay b.y.a u.cy b.y.c u.ys b.y.xs _ (RV.out.next N2.out.b).us (RC.out.y.next N2.out.b).us (by omega) (by omega)).mono ?_; rintro en v3 ⟨rfl, b_⟩; rw [(RV.out.next N2.out.b).v, (RC.out.y.next N2.out.b).v, ← HR3.out]; have N3 := Lib.hid (N2.out.next b_); have G3 := Lib.hid ((b_.block _ (heapLt G2.out)).trans G2.out); clear b_ d0 d1 d2 d3 e0 e1 e2 e3 e4 e5 e6 e7; obtain ⟨d0, d1, d2, d3⟩ := five_cells G3.out; obtain ⟨e0, e1, e2, e3, e4, e5, e6, e7⟩ := ar_cells PC.out KE.out KS.out N3.out.b; have s3 := s2; clear s2))
   | (have _t := s3; go_at_call 35; clear _t; go_loud (refine (rbcmp_any u.sy vs.s u.ay vs.a u.cy vs.c u.ys vs.xs _ (RV.out.next N3.out.b).us (KS.out.r.next N3.out.b).us (by omega) (by omega)).mono ?_; rintro en v4 ⟨rfl, b_⟩; rw [(RV.out.next N3.out.b).v, (KS.out.r.next N3.out.b).v, ← HR4.out]; have N4 := Lib.hid (N3.out.next b_); have G4 := Lib.hid ((b_.block _ (heapLt G3.out)).trans G3.out); clear b_ d0 d1 d2 d3 e0 e1 e2 e3 e4 e5 e6 e7; obtain ⟨d0, d1, d2, d3⟩ := five_cells G4.out; obtain ⟨e0, e1, e2, e3, e4, e5, e6, e7⟩ := ar_cells PC.out KE.out KS.out N4.out.b; have s4 := s3; clear s3)))
     obtain ⟨g13, hg13⟩ : ∃ g, g = wr.heap.size := ⟨_, rfl⟩
     have hgt13 : g13 ≠ gt := by have := heapLt J.out.t; omega
     rw [← hg13] at G4 ⊢
     clear hg13 d0 d1 d2 d3 e0 e1 e2 e3 e4 e5 e6 e7 f0 f1 f2 f3 f4 p1 p2_ p2' p3 p4 p4' s4 N0 N1 N2 N3 G0 G1 G2 G3
     have M0 := N4
     have C0 := G4
     obtain ⟨z0, z1, z2, z3, w0, w1_, w2_, w3_⟩ := four_cells M0.out.t
     obtain ⟨d0, d1, d2, d3⟩ := five_cells C0.out
     obtain ⟨e0, e1, e2, e3, e4, e5, e6, e7⟩ := ar_cells PC.out KE.out KS.out M0.out.b
     go_cut [] from 93 to 102 (fun wx => ArJ WS gt (a0 || decide (x = X)) a1 a2 a3 wx ∧ wx.heap[g13]? = some (cellO u))
     case first =>
      cases a0 with
      | true =>
       go_wp2_with fail
       go_meet
       exact ⟨M0.out.set0 true, (Below.heap_setCell _ _ _ _ hgt13).trans C0.out⟩
      | false =>
       obtain ⟨dd, hdd⟩ : ∃ d, d = decide (x = X) := ⟨_, rfl⟩
       have HDD := Lib.hid hdd
       have SM := Lib.hid (show decide (u.sx = b.x.s ∧ u.xs = b.x.xs) = dd by rw [hdd]; exact Bw.same RU.out RC.out.x)
       clear hdd
       have s0 : True := trivial
       go_wp2_with (have _t := s0; go_at_call 22; clear _t; go_loud (refine (rbsame_any u.sx b.x.s u.ax b.x.a u.cx b.x.c u.xs b.x.xs _ (RU.out.next M0.out.b).us (RC.out.x.next M0.out.b).us (by omega)).mono ?_; rintro en v5 ⟨rfl, b_⟩; rw [SM.out]; have M9 := Lib.hid (M0.out.next b_); have C9 := Lib.hid ((b_.block _ (heapLt C0.out)).trans C0.out); clear b_ z0 z1 z2 z3 w0 w1_ w2_ w3_; obtain ⟨z0, z1, z2, z3, w0, w1_, w2_, w3_⟩ := four_cells M9.out.t; have s1 := s0; clear s0))
       go_meet
       exact ⟨by rw [← HDD.out]; exact M9.out.set0 dd, (Below.heap_setCell _ _ _ _ hgt13).trans C9.out⟩
     case rest =>
     obtain ⟨hj_, hg_⟩ := hcut
     have M1 := Lib.hid hj_
     have C1 := Lib.hid hg_
     clear hj_ hg_ z0 z1 z2 z3 w0 w1_ w2_ w3_ d0 d1 d2 d3 e0 e1 e2 e3 e4 e5 e6 e7
     obtain ⟨z0, z1, z2, z3, w0, w1_, w2_, w3_⟩ := four_cells M1.out.t
     obtain ⟨d0, d1, d2, d3⟩ := five_cells C1.out
     obtain ⟨e0, e1, e2, e3, e4, e5, e6, e7⟩ := ar_cells PC.out KE.out KS.out M1.out.b
     go_upto_region 20 with (fail)
     go_cut [] from 103 to 111 (fun wx => ArJ WS gt (a0 || decide (x = X)) (a1 || decide (x = X + V - 1)) a2 a3 wx ∧ wx.heap[g13]? = some (cellO u))
     case first =>
      cases a1 with
      | true =>
       go_wp2_with fail
       go_meet
       exact ⟨M1.out.set1 true, (Below.heap_setCell _ _ _ _ hgt13).trans C1.out⟩
      | false =>
       obtain ⟨dd, hdd⟩ : ∃ d, d = decide (x = X + V - 1) := ⟨_, rfl⟩
       have HDD := Lib.hid hdd
       have SM := Lib.hid (show decide (u.sx = ue.s ∧ u.xs = ue.xs) = dd by rw [hdd]; exact Bw.same RU.out KE.out.r)
       clear hdd
       have s0 : True := trivial
       go_wp2_with (have _t := s0; go_at_call 22; clear _t; go_loud (refine (rbsame_any u.sx ue.s u.ax ue.a u.cx ue.c u.xs ue.xs _ (RU.out.next M1.out.b).us (KE.out.r.next M1.out.b).us (by omega)).mono ?_; rintro en v5 ⟨rfl, b_⟩; rw [SM.out]; have M9 := Lib.hid (M1.out.next b_); have C9 := Lib.hid ((b_.block _ (heapLt C1.out)).trans C1.out); clear b_ z0 z1 z2 z3 w0 w1_ w2_ w3_; obtain ⟨z0, z1, z2, z3, w0, w1_, w2_, w3_⟩ := four_cells M9.out.t; have s1 := s0; clear s0))
       go_meet
       exact ⟨by rw [← HDD.out]; exact M9.out.set1 dd, (Below.heap_setCell _ _ _ _ hgt13).trans C9.out⟩
     case rest =>
     obtain ⟨hj_, hg_⟩ := hcut
     have M2 := Lib.hid hj_
     have C2 := Lib.hid hg_
     clear hj_ hg_ z0 z1 z2 z3 w0 w1_ w2_ w3_ d0 d1 d2 d3 e0 e1 e2 e3 e4 e5 e6 e7
     obtain ⟨z0, z1, z2, z3, w0, w1_, w2_, w3_⟩ := four_cells M2.out.t
     obtain ⟨d0, d1, d2, d3⟩ := five_cells C2.out
     obtain ⟨e0, e1, e2, e3, e4, e5, e6, e7⟩ := ar_cells PC.out KE.out KS.out M2.out.b
     go_upto_region 21 with (fail)
     go_cut [] from 112 to 121 (fun wx => ArJ WS gt (a0 || decide (x = X)) (a1 || decide (x = X + V - 1)) (a2 || decide (y = Y)) a3 wx ∧ wx.heap[g13]? = some (cellO u))
     case first =>
      cases a2 with
      | true =>
       go_wp2_with fail
       go_meet
       exact ⟨M2.out.set2 true, (Below.heap_setCell _ _ _ _ hgt13).trans C2.out⟩
      | false =>
       obtain ⟨dd, hdd⟩ : ∃ d, d = decide (y = Y) := ⟨_, rfl⟩
       have HDD := Lib.hid hdd
       have SM := Lib.hid (show decide (u.sy = b.y.s ∧ u.ys = b.y.xs) = dd by rw [hdd]; exact Bw.same RV.out RC.out.y)
       clear hdd
       have s0 : True := trivial
       go_wp2_with (have _t := s0; go_at_call 22; clear _t; go_loud (refine (rbsame_any u.sy b.y.s u.ay b.y.a u.cy b.y.c u.ys b.y.xs _ (RV.out.next M2.out.b).us (RC.out.y.next M2.out.b).us (by omega)).mono ?_; rintro en v5 ⟨rfl, b_⟩; rw [SM.out]; have M9 := Lib.hid (M2.out.next b_); have C9 := Lib.hid ((b_.block _ (heapLt C2.out)).trans C2.out); clear b_ z0 z1 z2 z3 w0 w1_ w2_ w3_; obtain ⟨z0, z1, z2, z3, w0, w1_, w2_, w3_⟩ := four_cells M9.out.t; have s1 := s0; clear s0))
       go_meet
       exact ⟨by rw [← HDD.out]; exact M9.out.set2 dd, (Below.heap_setCell _ _ _ _ hgt13).trans C9.out⟩
     case rest =>
     obtain ⟨hj_, hg_⟩ := hcut
     have M3 := Lib.hid hj_
     have C3 := Lib.hid hg_
     clear hj_ hg_ z0 z1 z2 z3 w0 w1_ w2_ w3_ d0 d1 d2 d3 e0 e1 e2 e3 e4 e5 e6 e7
     obtain ⟨z0, z1, z2, z3, w0, w1_, w2_, w3_⟩ := four_cells M3.out.t
     obtain ⟨d0, d1, d2, d3⟩ := five_cells C3.out
     obtain ⟨e0, e1, e2, e3, e4, e5, e6, e7⟩ := ar_cells PC.out KE.out KS.out M3.out.b
     go_upto_region 22 with (fail)
     cases a3 with
     | true =>
      go_wp2_with fail
      go_roundw
      case rel => exact ⟨i + 1, by have := HLT.out; omega, by go_num, by rw [HS0.out, HS1.out, HS2.out, HS3.out]; exact M3.out.set3 true⟩
      case measure => simp [intOf]; have := HLT.out; omega
     | false =>
      obtain ⟨dd, hdd⟩ : ∃ d, d = decide (y = Y + H - 1) := ⟨_, rfl⟩
      have HDD := Lib.hid hdd
      have SM := Lib.hid (show decide (u.sy = vs.s ∧ u.ys = vs.xs) = dd by rw [hdd]; exact Bw.same RV.out KS.out.r)
      clear hdd
      have s0 : True := trivial
      go_wp2_with (have _t := s0; go_at_call 22; clear _t; go_loud (refine (rbsame_any u.sy vs.s u.ay vs.a u.cy vs.c u.ys vs.xs _ (RV.out.next M3.out.b).us (KS.out.r.next M3.out.b).us (by omega)).mono ?_; rintro en v5 ⟨rfl, b_⟩; rw [SM.out]; have M9 := Lib.hid (M3.out.next b_); have C9 := Lib.hid ((b_.block _ (heapLt C3.out)).trans C3.out); clear b_ z0 z1 z2 z3 w0 w1_ w2_ w3_; obtain ⟨z0, z1, z2, z3, w0, w1_, w2_, w3_⟩ := four_cells M9.out.t; have s1 := s0; clear s0))
      go_roundw
      case rel => exact ⟨i + 1, by have := HLT.out; omega, by go_num, by rw [HS0.out, HS1.out, HS2.out, HS3.out]; rw [← HDD.out]; exact M9.out.set3 dd⟩
      case measure => simp [intOf]; have := HLT.out; omega
    ·
     have hi : i = k := by omega
     subst hi
     obtain ⟨e0, e1, e2, e3, e4⟩ := around_met HQO.out ML.out (by have := H0.out; have := HK.out; intro e; rw [e] at this; simp at this; omega) BV.out
     rw [HK.out] at e1 e2 e3 e4
     have hj := J.out
     rw [e1, e2, e3, e4] at hj
     obtain ⟨z0, z1, z2, z3, -⟩ := four_cells hj.t
     have HJ := Lib.hid hj
     subst e0
     clear e1 e2 e3 e4 hj hlt
     go_wp2_with fail
     go_ret
     exact ⟨rfl, BC.out.trans (HJ.out.b.mono BC.out.size)⟩
theorem boxaround_law (A : Option Addr) (c : Nat) (l : List Cv) (w : World) (h : Cs w A c l) :
  Calls Try.prog 8 #[.slice A l.length c] w fun e w' => e = .returned (.bool true) ∧ Below w.heap.size w w' := by
 cases hm : mayB l 30 with
 | false => exact boxar_may A c _ l w h rfl hm
 | true => exact boxar_yes A c _ l w h rfl hm
end Go.Proofs.Ytlnmcilcifbcnaa
