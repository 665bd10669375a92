/-
  box: appends of cells, whatever their number (within the form's own reach); a row of cells, then one more.
  box: BoxMore, the walk.
-/
import Derived.Test.YtlnmcilcifbcnaaGBxR
import Derived.Test.YtlnmcilcifbcnaaGClRa
import Derived.Test.YtlnmcilcifbcnaaLay0

set_option linter.unusedVariables false
set_option linter.unusedSimpArgs false
set_option maxRecDepth 100000
namespace Go.Proofs.Ytlnmcilcifbcnaa
open Go.RowKit Num Nds
theorem run_append_cs2 (w : World) (base : Nat) (v : Value) (xs ys : List Cv) (ty : TypeId) (A : Option Addr) (m c : Nat) (how : OwnC w base v xs) (hN : Cs w A c ys) (hm : ys.length = m) (hA : A = none → c = 0) (hs : (xs.length + m) * 72 ≤ 140737488355328) (hb : base ≤ w.heap.size) :
  ∃ v' w', (Builtin.append_ #[22, 22] ty #[v, .slice A m c]).run Try.prog w = .ok v' w' ∧ OwnC w' base v' (xs ++ ys) ∧ w.grownBy w' v.ownBlock ∧ (v'.ownBlock = v.ownBlock ∨ v'.ownBlock = some w.heap.size) := by
 obtain ⟨i0, hi, hz0, hz1, hz2⟩ := info_parts Try.infoC
 cases A with
 | none =>
  have hc := hA rfl
  have hy : ys = [] := by
   rcases Nat.eq_zero_or_pos ys.length with h | h
   ·
    exact List.eq_nil_of_length_eq_zero h
   ·
    obtain ⟨b, off, e, _⟩ := hN.at_ h
    cases e
  subst hy
  subst hc
  subst hm
  refine ⟨v, w, run_append_owned_none (P := Try.prog) (w := w) base _ ty 27 i0 5 Try.underlying22 hi v _ _ how, ?_, ⟨rfl, rfl, rfl, Nat.le_refl _, fun _ _ _ => rfl⟩, .inl rfl⟩
  rw [List.append_nil]
  exact how
 | some ad =>
  obtain ⟨v', w', hrun, h2, h3, _, h5⟩ := run_append_own_at (P := Try.prog) w base 22 ty 27 i0 (cvv cv0) 5 72 Try.underlying22 hi hz0 hz1 hz2 rfl (by omega) v xs.length (cvcs xs) how ad m c (cvcs ys) (by rw [cvcs_len, hm]) (hN.cells rfl) (cvcs_one ys) (by simp only [maxLen]; omega) (by omega) hb
  refine ⟨v', w', hrun, ?_, h3, h5⟩
  unfold OwnC
  rw [cvcs_app, List.length_append, hm]
  exact h2
theorem oper_append_cs2 {w : World} {o : Oper} {a : Act} {K : Act → World → Prop} {Q : Exit → Act → World → Prop} (s x : Operand)
  (hop : o.op = Op.call { callee := Callee.builtin Builtin.append, args := #[s, x], argTypes := #[22, 22] }) (base : Nat) (v : Value) (xs ys : List Cv) (A : Option Addr) (m c : Nat)
  (hs : a.eval s = v) (hx : a.eval x = .slice A m c) (how : OwnC w base v xs) (hN : Cs w A c ys) (hm : ys.length = m) (hA : A = none → c = 0) (hsz : (xs.length + m) * 72 ≤ 140737488355328) (hb : base ≤ w.heap.size)
  (h : ∀ v' w', OwnC w' base v' (xs ++ ys) → w.grownBy w' v.ownBlock → (v'.ownBlock = v.ownBlock ∨ v'.ownBlock = some w.heap.size) → K (a.put o.dst v') w') : Oper.wp Try.prog o a w K Q := by
 obtain ⟨v', w', hrun, h1, h2, h3⟩ := run_append_cs2 w base v xs ys o.type A m c how hN hm hA hsz hb
 unfold Oper.wp execOp
 simp only [hop, resolve, invoke, builtin, Sem.run_bind, Sem.run_pure, Result.andThen_ok, List.map_toArray, List.map_cons, List.map_nil, hs, hx, hrun]
 exact h v' w' h1 h2 h3
theorem OwnC.start9 {w : World} {base : Nat} (h : base ≤ w.heap.size) : OwnC (w.alloc (.cells #[] 27)) base (.slice (some ⟨w.heap.size, 0, none⟩) 0 0) [] :=
 ⟨rfl, .inr ⟨w.heap.size, 0, #[], rfl, h, heap_alloc_new w _, Nat.le_refl _, by simp [maxLen], rfl, rfl⟩⟩
theorem cs_one9 {w : World} {g : Nat} (u : Cv) (h : w.heap[g]? = some (cellO u)) (hu : CvU w u) : Cs w (some ⟨g, 0, none⟩) 1 [u] := by
 refine ⟨fun x hx => ?_, Nat.le_refl _, by simp [maxLen], fun _ => ⟨g, 0, rfl, (Array.getElem?_eq_some_iff.1 h).1, fun i hi => ?_⟩⟩
 ·
  rw [List.mem_singleton.1 hx]
  exact hu
 ·
  match i, hi with
  | 0, _ => refine ⟨?_, ?_, ?_, ?_, ?_⟩ <;> (rw [cell_of_row _ _ _ _ _ _ h]; rfl)
structure MoI (S : World) (l : List Cv) (u : Cv) (j : Nat) (q : Bool) (t24 t26 t28 : Value) (W : World) : Prop where
 b : Below S.heap.size S W
 e1 : j = 1 → ∃ g, t24 = .slice (some ⟨g, 0, none⟩) 0 0 ∧ OwnC W S.heap.size t24 []
 e2 : j = 2 → OwnC W S.heap.size t26 l
 q2 : q = true → ∃ g, t28 = .slice (some ⟨g, 0, none⟩) 1 1 ∧ W.heap[g]? = some (cellO u) ∧ S.heap.size ≤ g ∧ (j = 1 → t24.ownBlock ≠ some g) ∧ (j = 2 → t26.ownBlock ≠ some g)
section
variable {S W W' : World} {l : List Cv} {u : Cv} {j : Nat} {q : Bool} {t24 t26 t28 v : Value}
theorem MoI.start (S : World) (l : List Cv) (u : Cv) (t24 t26 t28 : Value) : MoI S l u 0 false t24 t26 t28 S := ⟨Below.refl _ _, fun e => absurd e (by omega), fun e => absurd e (by omega), fun e => (by cases e)⟩
theorem MoI.empty (h : MoI S l u 0 q t24 t26 t28 W) : MoI S l u 1 q (.slice (some ⟨W.heap.size, 0, none⟩) 0 0) t26 t28 (W.alloc (.cells #[] 27)) :=
 ⟨h.b.alloc h.b.size _, fun _ => ⟨_, rfl, OwnC.start9 h.b.size⟩, fun e => absurd e (by omega), fun e => by
  obtain ⟨g, h1, h2, h3, -⟩ := h.q2 e
  have hg := (Array.getElem?_eq_some_iff.1 h2).1
  refine ⟨g, h1, (Below.heap_alloc W _ _ hg).trans h2, h3, fun _ e => ?_, fun e => absurd e (by omega)⟩
  have : W.heap.size = g := Option.some.inj e
  omega⟩
theorem MoI.one (h : MoI S l u j false t24 t26 t28 W) : MoI S l u j true t24 t26 (.slice (some ⟨W.heap.size, 0, none⟩) 1 1) (W.alloc (cellO u)) :=
 ⟨h.b.alloc h.b.size _, fun e => by
  obtain ⟨g, h1, h2⟩ := h.e1 e
  exact ⟨g, h1, h2.alloc _⟩, fun e => (h.e2 e).alloc _, fun _ => ⟨_, rfl, heap_alloc_new W _, h.b.size, fun e e2 => by
  obtain ⟨g, h1, h2⟩ := h.e1 e
  have := (h2.lt _ e2).2
  omega, fun e e2 => by
  have := ((h.e2 e).lt _ e2).2
  omega⟩⟩
theorem MoI.app (h : MoI S l u 1 q t24 t26 t28 W) (ho : OwnC W' S.heap.size v ([] ++ l)) (hg : W.grownBy W' t24.ownBlock) (ha : v.ownBlock = t24.ownBlock ∨ v.ownBlock = some W.heap.size) : MoI S l u 2 q t24 v t28 W' := by
 obtain ⟨g0, -, h2⟩ := h.e1 rfl
 refine ⟨h.b.grown hg h.b.size (fun k hk => (h2.lt k hk).1), fun e => absurd e (by omega), fun _ => ho, fun e => ?_⟩
 obtain ⟨g, k1, k2, k3, k4, -⟩ := h.q2 e
 have hlt := (Array.getElem?_eq_some_iff.1 k2).1
 refine ⟨g, k1, (hg.block g hlt (fun e => k4 rfl e.symm)).trans k2, k3, fun e => absurd e (by omega), fun _ e => ?_⟩
 rcases ha with ha | ha
 ·
  rw [ha] at e
  exact k4 rfl e
 ·
  rw [ha] at e
  have := Option.some.inj e
  omega
end
end Go.Proofs.Ytlnmcilcifbcnaa

namespace Go.Proofs.Ytlnmcilcifbcnaa
open Go.RowKit Num Nds
theorem lastS_snoc9 (l : List Cl) (c : Cl) (x y : Int) : lastS (l ++ [c]) x y = if c.x = x ∧ c.y = y then c.s else lastS l x y := by
 unfold lastS
 rw [List.foldl_append]
 rfl
theorem mo_cells {S W : World} {gb gc g9 g10 : Nat} {b : Xb} {u : Cv} {ue vs : Bw} {E F : Int} (hb : S.heap[gb]? = some b.obj) (hc : S.heap[gc]? = some (cellO u)) (he : ue.B S g9 E) (hs : vs.B S g10 F) (k : Below S.heap.size S W) :
  W.cell? ⟨gb, 0, none⟩ = some (.bool b.x.s) ∧ W.cell? ⟨gb, 1, none⟩ = some (.slice b.x.a b.x.xs.length b.x.c) ∧ W.cell? ⟨gb, 2, none⟩ = some (.bool b.y.s) ∧ W.cell? ⟨gb, 3, none⟩ = some (.slice b.y.a b.y.xs.length b.y.c) ∧ W.cell? ⟨gc, 0, none⟩ = some (.bool u.sx) ∧ W.cell? ⟨gc, 1, none⟩ = some (.slice u.ax u.xs.length u.cx) ∧ W.cell? ⟨gc, 2, none⟩ = some (.bool u.sy) ∧ W.cell? ⟨gc, 3, none⟩ = some (.slice u.ay u.ys.length u.cy) ∧ W.cell? ⟨g9, 0, none⟩ = some (.bool ue.s) ∧ W.cell? ⟨g9, 1, none⟩ = some (.slice ue.a ue.xs.length ue.c) ∧ W.cell? ⟨g10, 0, none⟩ = some (.bool vs.s) ∧ W.cell? ⟨g10, 1, none⟩ = some (.slice vs.a vs.xs.length vs.c) := by
 obtain ⟨c0, c1, c2, c3, -⟩ := Xb.cells ((k.block _ (heapLt hb)).trans hb)
 obtain ⟨d0, d1, d2, d3⟩ := five_cells ((k.block _ (heapLt hc)).trans hc)
 exact ⟨c0, c1, c2, c3, d0, d1, d2, d3, (he.next k).c0, (he.next k).c1, (hs.next k).c0, (hs.next k).c1⟩
theorem four_last {W : World} {gb : Nat} {b : Xb} (hb : W.heap[gb]? = some b.obj) : W.cell? ⟨gb, 4, none⟩ = some (.bool b.w.s) ∧ W.cell? ⟨gb, 5, none⟩ = some (.slice b.w.a b.w.xs.length b.w.c) ∧ W.cell? ⟨gb, 6, none⟩ = some (.bool b.h.s) ∧ W.cell? ⟨gb, 7, none⟩ = some (.slice b.h.a b.h.xs.length b.h.c) := by
 obtain ⟨-, -, -, -, h⟩ := Xb.cells hb
 exact h
theorem mo_all {S W : World} {gb ga g9 g10 : Nat} {b a : Xb} {ue vs : Bw} {E F : Int} (hb : S.heap[gb]? = some b.obj) (ha : S.heap[ga]? = some a.obj) (he : ue.B S g9 E) (hs : vs.B S g10 F) (k : Below S.heap.size S W) :
  W.cell? ⟨gb, 0, none⟩ = some (.bool b.x.s) ∧ W.cell? ⟨gb, 1, none⟩ = some (.slice b.x.a b.x.xs.length b.x.c) ∧ W.cell? ⟨gb, 2, none⟩ = some (.bool b.y.s) ∧ W.cell? ⟨gb, 3, none⟩ = some (.slice b.y.a b.y.xs.length b.y.c) ∧ W.cell? ⟨ga, 0, none⟩ = some (.bool a.x.s) ∧ W.cell? ⟨ga, 1, none⟩ = some (.slice a.x.a a.x.xs.length a.x.c) ∧ W.cell? ⟨ga, 2, none⟩ = some (.bool a.y.s) ∧ W.cell? ⟨ga, 3, none⟩ = some (.slice a.y.a a.y.xs.length a.y.c) ∧ W.cell? ⟨ga, 4, none⟩ = some (.bool a.w.s) ∧ W.cell? ⟨ga, 5, none⟩ = some (.slice a.w.a a.w.xs.length a.w.c) ∧ W.cell? ⟨ga, 6, none⟩ = some (.bool a.h.s) ∧ W.cell? ⟨ga, 7, none⟩ = some (.slice a.h.a a.h.xs.length a.h.c) ∧ W.cell? ⟨g9, 0, none⟩ = some (.bool ue.s) ∧ W.cell? ⟨g9, 1, none⟩ = some (.slice ue.a ue.xs.length ue.c) ∧ W.cell? ⟨g10, 0, none⟩ = some (.bool vs.s) ∧ W.cell? ⟨g10, 1, none⟩ = some (.slice vs.a vs.xs.length vs.c) := by
 obtain ⟨c0, c1, c2, c3, -⟩ := Xb.cells ((k.block _ (heapLt hb)).trans hb)
 obtain ⟨d0, d1, d2, d3, d4, d5, d6, d7⟩ := Xb.cells ((k.block _ (heapLt ha)).trans ha)
 exact ⟨c0, c1, c2, c3, d0, d1, d2, d3, d4, d5, d6, d7, (he.next k).c0, (he.next k).c1, (hs.next k).c0, (hs.next k).c1⟩
theorem six_cells {W : World} {g : Nat} {u : Cv} (h : W.heap[g]? = some (cellO u)) : W.cell? ⟨g, 0, none⟩ = some (.bool u.sx) ∧ W.cell? ⟨g, 1, none⟩ = some (.slice u.ax u.xs.length u.cx) ∧ W.cell? ⟨g, 2, none⟩ = some (.bool u.sy) ∧ W.cell? ⟨g, 3, none⟩ = some (.slice u.ay u.ys.length u.cy) ∧ W.cell? ⟨g, 4, none⟩ = some (.int .u8 u.st) := by
 refine ⟨?_, ?_, ?_, ?_, ?_⟩ <;> (rw [cell_of_row W g _ _ _ (0, 0) h]; rfl)
structure MoreB (is : Bool) (X Y V H x y X2 Y2 V2 H2 : Int) : Prop where
 inx : X2 ≤ x ∧ x < X2 + V2
 iny : Y2 ≤ y ∧ y < Y2 + H2
 one : is = false → V2 = 1 ∧ H2 = 1
 more : is = true → X2 ≤ X ∧ Y2 ≤ Y ∧ X + V ≤ X2 + V2 ∧ Y + H ≤ Y2 + H2
theorem more_box {l : List Cv} {u : Cv} {q p : List Nd} (hq : QuadOf (lastF (l.map Cv.cl)) q) (hp : QuadOf (lastF ((l ++ [u]).map Cv.cl)) p) (hu : u.st ≠ 0) {is is2 : Bool} {X Y V H X2 Y2 V2 H2 : Int} (b : BxV q q.length is X Y V H) (d : BxV p p.length is2 X2 Y2 V2 H2) :
  is2 = true ∧ MoreB is X Y V H u.cl.x u.cl.y X2 Y2 V2 H2 := by
 have hs : ∀ x y, cellM (den p p.length) x y = if u.cl.x = x ∧ u.cl.y = y then (u.st : Int) else cellM (den q q.length) x y := fun x y => by
  rw [hp.den, hq.den, lastF_lk, lastF_lk, List.map_append, List.map_cons, List.map_nil, lastS_snoc9]
  rfl
 have h1 : cellM (den p p.length) u.cl.x u.cl.y ≠ 0 := by
  rw [hs, if_pos ⟨rfl, rfl⟩]
  omega
 have h2 : ∀ x y, cellM (den q q.length) x y ≠ 0 → cellM (den p p.length) x y ≠ 0 := fun x y h => by
  rw [hs]
  split
  ·
   omega
  ·
   exact h
 rcases d.cells hp.good with ⟨rfl, -⟩ | ⟨rfl, hc, ⟨x1, y1, a1, e1⟩, ⟨x2, y2, a2, e2⟩, ⟨x3, y3, a3, e3⟩, ⟨x4, y4, a4, e4⟩⟩
 ·
  exact absurd rfl h1
 ·
  have k0 := hc _ _ h1
  refine ⟨rfl, ⟨by omega, by omega⟩, ⟨by omega, by omega⟩, fun hi => ?_, fun hi => ?_⟩
  ·
   rcases b.cells hq.good with ⟨rfl, -⟩ | ⟨hi2, -⟩
   ·
    have only : ∀ x y, cellM (den p p.length) x y ≠ 0 → u.cl.x = x ∧ u.cl.y = y := fun x y h => by
     rw [hs] at h
     split at h
     ·
      assumption
     ·
      exact absurd rfl h
    have b1 := only _ _ a1
    have b2 := only _ _ a2
    have b3 := only _ _ a3
    have b4 := only _ _ a4
    omega
   ·
    rw [hi] at hi2
    cases hi2
  ·
   rcases b.cells hq.good with ⟨-, hi2, -⟩ | ⟨-, -, ⟨z1, w1, b1, f1⟩, ⟨z2, w2, b2, f2⟩, ⟨z3, w3, b3, f3⟩, ⟨z4, w4, b4, f4⟩⟩
   ·
    rw [hi] at hi2
    cases hi2
   ·
    have g1 := hc _ _ (h2 _ _ b1)
    have g2 := hc _ _ (h2 _ _ b2)
    have g3 := hc _ _ (h2 _ _ b3)
    have g4 := hc _ _ (h2 _ _ b4)
    omega
set_option maxHeartbeats 6400000 in
theorem boxmore_any (A : Option Addr) (c n : Nat) (l : List Cv) (u : Cv) (m1 m2 : Bool) (w : World) (h : Cs w A c l) (hn : l.length = n) (hA : A = none → c = 0) (hu : CvU w u) (hre : n * 72 ≤ 140737488351232) (hm1 : mayB l 30 = m1) (hm2 : mayB (l ++ [u]) 31 = m2) :
  Calls Try.prog 9 #[.slice A n c, cvv u] w fun e w' => e = .returned (.bool true) ∧ Below w.heap.size w w' := by
 have hcap := h.cap
 rw [hn] at hcap
 have cpu := hu.1.cap
 have cpv := hu.2.1.cap
 have hst := hu.2.2
 have bu := (Below.refl w.heap.size w).alloc (Nat.le_refl _) (cellO u)
 have ku := heap_alloc_new w (cellO u)
 have H0 := Lib.hid ((Ag.start w).step bu)
 have KU0 := Lib.hid ku
 have HCS := Lib.hid h
 have HU := Lib.hid hu
 have HL := Lib.hid hn
 have HA := Lib.hid hA
 have HM := Lib.hid hm1
 have HM2 := Lib.hid hm2
 have HB9 := Lib.hid (show ∀ (L : List Cv) (q : List Nd) (qn : Nat), QuadOf (lastF (L.map Cv.cl)) q → q.length = qn → mayB L 31 = true ∨ mayB L 30 = true → qn ≤ 900000 from fun L q qn hq e hm => by
  have h1 := hq.lenF.2
  have h2 := lastF_le (L.map Cv.cl)
  rw [List.length_map] at h2
  rcases hm with hm | hm
  ·
   have h3 := (may_R hm).1
   omega
  ·
   have h3 := (may_R hm).1
   omega)
 have q0 : True := trivial
 clear h hn hA hu hm1 hm2 bu ku
 go_enter Try.func9, Try.ntmps9
 go_upto_region 4 with (first
   | (have _t := q0; go_at_call 25; clear _t; go_loud (refine (alive9_any _).mono ?_; rintro e w1 ⟨rfl, b1⟩; have H1 := Lib.hid (H0.out.step b1); have KU := Lib.hid ((b1.block _ (heapLt KU0.out)).trans KU0.out); clear b1; have q1 := q0; clear q0))
   | (have _t := q1; go_at_call 11; clear _t; go_loud (refine (rquad_any A c n 30 l _ (HCS.out.below H1.out.b) HL.out (by omega)).mono ?_; rintro e w2 ⟨A5, c5, qn, q, ok, rfl, l5, n5, a5, b5, hok, -, hqo⟩; rw [HM.out] at hok; subst hok; have hc5 := n5.cap; rw [l5] at hc5; have H2 := Lib.hid (((H1.out.step b5).addN n5).addB (.slice A5 qn c5)); have HQN := Lib.hid l5; have HQO := Lib.hid hqo; have b6 := b5.alloc b5.size (.cells #[.slice A5 qn c5] 31); have KU := Lib.hid ((b6.block _ (heapLt KU.out)).trans KU.out); obtain ⟨u0, u1, u2, u3, u4⟩ := six_cells KU.out; clear n5 a5 b5 l5 hqo b6; have q2 := q1; clear q1)))
 obtain ⟨S, hS⟩ : ∃ S : World, S = (w2.alloc (.cells #[.slice A5 qn c5] 31)).drewN 1 := ⟨_, rfl⟩
 obtain ⟨g5, hg5⟩ : ∃ g, g = w2.heap.size := ⟨_, rfl⟩
 have hbd := below_drewN (Below.refl (w2.alloc (.cells #[.slice A5 qn c5] 31)).heap.size (w2.alloc (.cells #[.slice A5 qn c5] 31))) 1
 rw [← hS] at hbd
 have HG := Lib.hid (H2.out.step hbd)
 have KS := Lib.hid ((hbd.block _ (heapLt KU.out)).trans KU.out)
 rw [← hg5] at HG ⊢
 clear hbd H0 H1 H2 KU0 KU u0 u1 u2 u3 u4 hg5
 go_cut [7] from 24 to 29 (fun s7 wx => ∃ A8 c8, s7 = .slice A8 (n + 1) c8 ∧ Cs wx A8 c8 (l ++ [u]) ∧ Below S.heap.size S wx)
 case first =>
  refine wp_region_noPanic ?_
  refine wp_region_held (S := fun w' => w'.cell? ⟨w.heap.size, 0, none⟩ = some (.bool u.sx) ∧ w'.cell? ⟨w.heap.size, 1, none⟩ = some (.slice u.ax u.xs.length u.cx) ∧ w'.cell? ⟨w.heap.size, 2, none⟩ = some (.bool u.sy) ∧ w'.cell? ⟨w.heap.size, 3, none⟩ = some (.slice u.ay u.ys.length u.cy) ∧ w'.cell? ⟨w.heap.size, 4, none⟩ = some (.int .u8 u.st)) (by kernel_rfl) ?_
  change wpAnyH _ _ _ _ _ _ _ _ ((w2.alloc (.cells #[.slice A5 qn c5] 31)).drewN 1)
  rw [← hS]
  clear hS
  have SC := Lib.hid (show ∀ W, Below S.heap.size S W → W.heap[w.heap.size]? = some (cellO u) from fun W b => (b.block _ (heapLt KS.out)).trans KS.out)
  have hS0 := six_cells KS.out
  refine wpAnyH_take (i := 1) (v := ?_) rfl (by kernel_rfl) (by kernel_rfl) (by kernel_rfl) (fun _ _ _ h => h) (Or.inl ⟨by rfl, ?_⟩) hS0 ?_
  rotate_left
  ·
   rintro w' ⟨s0_, s1_, s2_, s3_, s4_⟩
   go_simp
   first | done | with_reducible rfl | rfl
  simp only [Act.put, LA]
  refine wpAnyH_take (i := 3) (v := ?_) rfl (by kernel_rfl) (by kernel_rfl) (by kernel_rfl) (fun _ _ _ h => h) (Or.inl ⟨by rfl, ?_⟩) hS0 ?_
  rotate_left
  ·
   rintro w' ⟨s0_, s1_, s2_, s3_, s4_⟩
   go_simp
   first | done | with_reducible rfl | rfl
  simp only [Act.put, LA]
  refine wpAnyH_states2 (T := Nat × Bool) (fun x => (2 - x.1) + (if x.2 then 0 else 1)) (fun x => #[decide (1 ≤ x.1), true, decide (2 ≤ x.1), true, x.2, false, false]) (fun x => (2 - x.1) + (if x.2 then 0 else 1) + 2) (fun x a W => x.1 ≤ 2 ∧ ∃ t24 t26 t28, a = { tmps := #[.slice A n c, cvv u, undef, .pointer (some ⟨w.heap.size, 0, none⟩), .bool false, .pointer (some ⟨g5, 0, none⟩), .bool ok, undef, undef, undef, undef, undef, undef, undef, undef, undef, undef, .bool true, .bool false, .tuple #[.agg #[.slice A5 qn c5], .bool ok], .slice A n c, .tuple #[.agg #[.slice A5 qn c5], .bool ok], .agg #[.slice A5 qn c5], .bool ok, t24, .slice A n c, t26, .agg #[.bool u.sx, .slice u.ax u.xs.length u.cx, .bool u.sy, .slice u.ay u.ys.length u.cy, .int .u8 u.st], t28, undef, undef, undef, undef, undef, undef, undef, undef, undef, undef, undef, undef, undef, undef, undef, undef, undef, undef, undef, undef, undef, undef, undef, undef, undef, undef, undef, undef, undef, undef, undef, undef, undef, undef, undef, undef, undef, undef, undef, undef, undef, undef, undef, undef, undef, undef, undef, undef, undef, undef, undef, undef, undef, undef, undef, undef, undef, undef, undef, undef, undef, undef, undef, undef, undef, undef, undef, undef, undef, undef, undef, undef, undef, undef, undef, undef, undef, undef, undef, undef, undef, undef, undef, undef, undef, undef, undef, undef, undef, undef, undef, undef, undef, undef, undef, undef, undef, undef, undef, undef, undef, undef, undef, undef, undef, undef, undef, undef, undef, undef, undef, undef, undef, undef, undef, undef, undef, undef, undef, undef], defers := [] } ∧ MoI S l u x.1 x.2 t24 t26 t28 W) ?_ (0, false) _ _ (by kernel_rfl) (by kernel_rfl) _ _ ⟨by decide, undef, undef, undef, rfl, MoI.start S l u undef undef undef⟩
  rintro ⟨j, p⟩ IH a W ⟨hj, t24, t26, t28, rfl, hI⟩
  clear hS0
  dsimp only at hj hI ⊢
  obtain rfl | rfl | rfl : j = 0 ∨ j = 1 ∨ j = 2 := by omega
  ·
   cases p
   ·
    refine wpAnyH_ready (rs := [0, 4]) (by kernel_rfl) (by simp) (AllReadyH.cons rfl (fun K hK => ?_) (AllReadyH.cons rfl (fun K hK => ?_) AllReadyH.nil))
    ·
     go_simp
     refine hK.out _ _ (six_cells (SC.out _ hI.empty.b)) (fun _ => ?_)
     exact IH (1, false) _ _ (by decide) (by kernel_rfl) (by kernel_rfl) _ _ ⟨by decide, _, _, _, rfl, hI.empty⟩
    ·
     go_simp
     refine hK.out _ _ (six_cells (SC.out _ hI.one.b)) (fun _ => ?_)
     exact IH (0, true) _ _ (by decide) (by kernel_rfl) (by kernel_rfl) _ _ ⟨by decide, _, _, _, rfl, hI.one⟩
   ·
    refine wpAnyH_ready (rs := [0]) (by kernel_rfl) (by simp) (AllReadyH.cons rfl (fun K hK => ?_) AllReadyH.nil)
    ·
     go_simp
     refine hK.out _ _ (six_cells (SC.out _ hI.empty.b)) (fun _ => ?_)
     exact IH (1, true) _ _ (by decide) (by kernel_rfl) (by kernel_rfl) _ _ ⟨by decide, _, _, _, rfl, hI.empty⟩
  ·
   cases p
   ·
    refine wpAnyH_ready (rs := [2, 4]) (by kernel_rfl) (by simp) (AllReadyH.cons rfl (fun K hK => ?_) (AllReadyH.cons rfl (fun K hK => ?_) AllReadyH.nil))
    ·
     rw [if_pos (by rfl)]
     obtain ⟨g0, rfl, ho1⟩ := hI.e1 rfl
     refine oper_append_cs2 (.tmp 24) (.tmp 25) rfl S.heap.size (.slice (some ⟨g0, 0, none⟩) 0 0) [] l A n c rfl rfl ho1 (HCS.out.below (HG.out.b.trans (hI.b.mono HG.out.b.size))) HL.out HA.out (by simp; omega) hI.b.size ?_
     intro v5 W5 ho hgw ha
     simp only [Act.put, LA]
     have hN := hI.app ho hgw ha
     refine hK.out _ _ (six_cells (SC.out _ hN.b)) (fun _ => ?_)
     exact IH (2, false) _ _ (by decide) (by kernel_rfl) (by kernel_rfl) _ _ ⟨by decide, _, _, _, rfl, hN⟩
    ·
     go_simp
     refine hK.out _ _ (six_cells (SC.out _ hI.one.b)) (fun _ => ?_)
     exact IH (1, true) _ _ (by decide) (by kernel_rfl) (by kernel_rfl) _ _ ⟨by decide, _, _, _, rfl, hI.one⟩
   ·
    refine wpAnyH_ready (rs := [2]) (by kernel_rfl) (by simp) (AllReadyH.cons rfl (fun K hK => ?_) AllReadyH.nil)
    ·
     rw [if_pos (by rfl)]
     obtain ⟨g0, rfl, ho1⟩ := hI.e1 rfl
     refine oper_append_cs2 (.tmp 24) (.tmp 25) rfl S.heap.size (.slice (some ⟨g0, 0, none⟩) 0 0) [] l A n c rfl rfl ho1 (HCS.out.below (HG.out.b.trans (hI.b.mono HG.out.b.size))) HL.out HA.out (by simp; omega) hI.b.size ?_
     intro v5 W5 ho hgw ha
     simp only [Act.put, LA]
     have hN := hI.app ho hgw ha
     refine hK.out _ _ (six_cells (SC.out _ hN.b)) (fun _ => ?_)
     exact IH (2, true) _ _ (by decide) (by kernel_rfl) (by kernel_rfl) _ _ ⟨by decide, _, _, _, rfl, hN⟩
  ·
   cases p
   ·
    refine wpAnyH_ready (rs := [4]) (by kernel_rfl) (by simp) (AllReadyH.cons rfl (fun K hK => ?_) AllReadyH.nil)
    ·
     go_simp
     refine hK.out _ _ (six_cells (SC.out _ hI.one.b)) (fun _ => ?_)
     exact IH (2, true) _ _ (by decide) (by kernel_rfl) (by kernel_rfl) _ _ ⟨by decide, _, _, _, rfl, hI.one⟩
   ·
    obtain ⟨g9, rfl, k2, k3, -, k5⟩ := hI.q2 rfl
    refine wpAnyH_ready (rs := [5]) (by kernel_rfl) (by simp) (AllReadyH.cons rfl (fun K hK => ?_) AllReadyH.nil)
    rw [if_pos (by rfl)]
    refine oper_append_cs2 (.tmp 26) (.tmp 28) rfl S.heap.size t26 l [u] (some ⟨g9, 0, none⟩) 1 1 rfl rfl (hI.e2 rfl) (cs_one9 u k2 (HU.out.below (HG.out.b.trans (hI.b.mono HG.out.b.size)))) rfl (fun e => by cases e) (by have := HL.out; omega) hI.b.size ?_
    intro v5 W5 ho hgw ha
    simp only [Act.put, LA]
    have B5 := hI.b.grown hgw hI.b.size (fun k hk => ((hI.e2 rfl).lt k hk).1)
    have HO := Lib.hid ho
    have HB5 := Lib.hid B5
    have hS5 := six_cells (SC.out _ B5)
    refine hK.out _ _ hS5 (fun _ => ?_)
    clear hK K ho hgw ha IH hI
    refine wpAnyH_take (i := 6) (v := ?_) rfl (by kernel_rfl) (by kernel_rfl) (by kernel_rfl) (fun _ _ _ h => h) (Or.inl ⟨by rfl, ?_⟩) hS5 ?_
    rotate_left
    ·
     rintro w' ⟨s0_, s1_, s2_, s3_, s4_⟩
     go_simp
     first | done | with_reducible rfl | rfl
    simp only [Act.put, LA]
    refine wpAnyH_done (by kernel_rfl) ?_ _
    refine NoPanic.normal ?_
    go_wp2_with fail
    go_meet
    have bw := HG.out.b.trans (HB5.out.mono HG.out.b.size)
    obtain ⟨A8, c8, e8, cs8, -, -⟩ := HO.out.cs (fun x hx => by
     rcases List.mem_append.1 hx with h9 | h9
     ·
      exact (HCS.out.below bw).1 x h9
     ·
      rw [List.mem_singleton.1 h9]
      exact HU.out.below bw)
    rw [show (l ++ [u]).length = n + 1 by rw [List.length_append, HL.out]; rfl] at e8
    exact ⟨A8, c8, e8, cs8, HB5.out⟩
 case rest =>
  rename World => W4
  obtain ⟨A8, c8, rfl, hcs8, b8⟩ := hcut
  have hc8 := hcs8.cap
  have hl8 : (l ++ [u]).length = n + 1 := by rw [List.length_append, HL.out]; rfl
  rw [hl8] at hc8
  have HC8 := Lib.hid hcs8
  have HL8 := Lib.hid hl8
  have H4 := Lib.hid (HG.out.step b8)
  have KU := Lib.hid ((b8.block _ (heapLt KS.out)).trans KS.out)
  obtain ⟨u0, u1, u2, u3, u4⟩ := six_cells KU.out
  have q2_ : True := trivial
  clear hcs8 hl8 b8 HG KS hS q2
  have p0 : True := trivial
  go_upto_region 6 with (have _t := p0; go_at_call 11; clear _t; go_loud (refine (rquad_any A8 c8 (n + 1) 31 (l ++ [u]) _ HC8.out HL8.out (by omega)).mono ?_; rintro e w5 ⟨A6, c6, pn, pq, ok2, rfl, l6, n6, a6, b6, hok2, -, hqo2⟩; rw [HM2.out] at hok2; subst hok2; have hc6 := n6.cap; rw [l6] at hc6; have H5 := Lib.hid (((H4.out.step b6).addN n6).addB (.slice A6 pn c6)); have HPN := Lib.hid l6; have HPO := Lib.hid hqo2; have b7 := b6.alloc b6.size (.cells #[.slice A6 pn c6] 31); have KU := Lib.hid ((b7.block _ (heapLt KU.out)).trans KU.out); obtain ⟨u0, u1, u2, u3, u4⟩ := six_cells KU.out; have f5 := H5.out.getB (g := g5) (v := .slice A5 qn c5) (by simp); have f6 := H5.out.getB (g := w5.heap.size) (v := .slice A6 pn c6) (by simp); clear n6 a6 b6 l6 hqo2 b7; have p1 := p0; clear p0))
  cases ok with
  | false =>
   go_wp2_with fail
   go_ret
   exact ⟨rfl, H5.out.b⟩
  | true =>
   cases ok2 with
   | false =>
    go_wp2_with fail
    go_ret
    exact ⟨rfl, H5.out.b⟩
   | true =>
    by_cases hst0 : u.st = 0
    ·
     have t1 : ((u.st : Int) == 0) = true := by rw [hst0]; rfl
     clear hst0
     go_wp2_with fail
     go_ret
     exact ⟨rfl, H5.out.b⟩
    ·
     have t1 : ((u.st : Int) == 0) = false := beq_eq_false_iff_ne.2 (by omega)
     have HST := Lib.hid hst0
     clear hst0
     go_upto_region 10 with (first
      | (have _t := p1; go_at_call 26; clear _t; go_loud (refine (box_any qn c5 A5 q _ (H5.out.getN (A := A5) (c := c5) (l := q) (by simp)) HQN.out (HB9.out l q qn (HQO.out (by first | rfl | trivial)) HQN.out (.inr HM.out)) (HQO.out (by first | rfl | trivial)).good).mono ?_; rintro e w6 ⟨a, X, Y, V, H, is, rfl, ra, sa, b6, bv⟩; have BV := Lib.hid (show BxV q q.length is X Y V H by rw [HQN.out]; exact bv); have b7 := b6.alloc b6.size a.obj; have H6 := Lib.hid (H5.out.step b7); have KU := Lib.hid ((b7.block _ (heapLt KU.out)).trans KU.out); obtain ⟨u0, u1, u2, u3, u4⟩ := six_cells KU.out; have hal := (Below.refl w6.heap.size w6).alloc (Nat.le_refl _) a.obj; have PA := Lib.hid (heap_alloc_new w6 a.obj); have RA := Lib.hid (ra.next hal); have SA := Lib.hid sa; have f6 := H6.out.getB (g := w5.heap.size) (v := .slice A6 pn c6) (by simp); clear ra sa b6 b7 bv hal; have p2 := p1; clear p1))
      | (have _t := p2; go_at_call 26; clear _t; go_loud (refine (box_any pn c6 A6 pq _ (H6.out.getN (A := A6) (c := c6) (l := pq) (by simp)) HPN.out (HB9.out (l ++ [u]) pq pn (HPO.out (by first | rfl | trivial)) HPN.out (.inl HM2.out)) (HPO.out (by first | rfl | trivial)).good).mono ?_; rintro e w7 ⟨b, X2, Y2, V2, Z2, is2, rfl, rb, sb, b6, bv⟩; have BW := Lib.hid (show BxV pq pq.length is2 X2 Y2 V2 Z2 by rw [HPN.out]; exact bv); have b7 := b6.alloc b6.size b.obj; have H7 := Lib.hid (H6.out.step b7); have KU := Lib.hid ((b7.block _ (heapLt KU.out)).trans KU.out); have PA := Lib.hid ((b7.block _ (heapLt PA.out)).trans PA.out); have RA := Lib.hid (RA.out.next b7); have hal := (Below.refl w7.heap.size w7).alloc (Nat.le_refl _) b.obj; have PB := Lib.hid (heap_alloc_new w7 b.obj); have RB := Lib.hid (rb.next hal); have SB := Lib.hid sb; obtain ⟨u0, u1, u2, u3, u4⟩ := six_cells KU.out; clear rb sb b6 b7 bv hal; have p3 := p2; clear p2)))
     obtain ⟨gs5, hgs5⟩ : ∃ g, g = w5.heap.size := ⟨_, rfl⟩
     obtain ⟨ga, hga⟩ : ∃ g, g = w6.heap.size := ⟨_, rfl⟩
     obtain ⟨gb, hgb⟩ : ∃ g, g = w7.heap.size := ⟨_, rfl⟩
     obtain ⟨S2, hS2⟩ : ∃ S : World, S = (w7.alloc b.obj).drewN 1 := ⟨_, rfl⟩
     have hbd := below_drewN (Below.refl (w7.alloc b.obj).heap.size (w7.alloc b.obj)) 1
     rw [← hS2] at hbd
     have AS := Lib.hid ((hbd.block _ (heapLt PA.out)).trans PA.out)
     have PS := Lib.hid ((hbd.block _ (heapLt PB.out)).trans PB.out)
     have RAS := Lib.hid (RA.out.next hbd)
     have RBS := Lib.hid (RB.out.next hbd)
     have KS := Lib.hid ((hbd.block _ (heapLt KU.out)).trans KU.out)
     have BS := Lib.hid (H7.out.b.trans (hbd.mono H7.out.b.size))
     have hmb := more_box (HQO.out (by first | rfl | trivial)) (HPO.out (by first | rfl | trivial)) HST.out BV.out BW.out
     have hcr := (may_R HM2.out).2 u (by simp)
     obtain ⟨x, hx⟩ : ∃ x, x = u.cl.x := ⟨_, rfl⟩
     obtain ⟨y, hy⟩ : ∃ y, y = u.cl.y := ⟨_, rfl⟩
     rw [← hx, ← hy] at hmb
     have hub := HU.out.below BS.out
     have RU := Lib.hid (show (⟨u.sx, u.ax, u.cx, u.xs⟩ : Bw).R S2 x from ⟨hub.1, hcr.1, hx.symm⟩)
     have RV := Lib.hid (show (⟨u.sy, u.ay, u.cy, u.ys⟩ : Bw).R S2 y from ⟨hub.2.1, hcr.2.1, hy.symm⟩)
     have lu := hcr.2.2.1
     have lv := hcr.2.2.2
     obtain ⟨rfl, hmo⟩ := hmb
     have MO := Lib.hid hmo
     have bnd := Lib.hid (BxV.low (HPO.out (by first | rfl | trivial)).good BW.out)
     have bna := Lib.hid (BxV.low (HQO.out (by first | rfl | trivial)).good BV.out)
     have LB := Lib.hid (show ∀ (u : Bw) (W : World) (X : Int), u.R W X → -p2 1330 ≤ X → X ≤ p2 1330 → u.xs.length ≤ 50000 from fun u W X r h1 h2 => Nat.le_trans (bw_len r h1 h2) (by omega))
     have b1_ := SB.out.x
     have b2_ := SB.out.y
     have b3_ := SB.out.w
     have b4_ := SB.out.h
     have a1_ := SA.out.x
     have a2_ := SA.out.y
     have a3_ := SA.out.w
     have a4_ := SA.out.h
     rw [← hgs5, ← hga, ← hgb] at *
     clear hbd hgs5 hga hgb hx hy hub hcr hmo H4 H5 H6 H7 KU PA PB RA RB u0 u1 u2 u3 u4
     go_cut [14, 15] from 56 to 65 (fun s9 s10 wx => DfC S2 (X2 + V2) (Y2 + Z2) s9 s10 wx)
     case first =>
      refine wp_normalOnly ?_
      refine wp_region_held (S := fun w' => w'.cell? ⟨gb, 0, none⟩ = some (.bool b.x.s) ∧ w'.cell? ⟨gb, 1, none⟩ = some (.slice b.x.a b.x.xs.length b.x.c) ∧ w'.cell? ⟨gb, 2, none⟩ = some (.bool b.y.s) ∧ w'.cell? ⟨gb, 3, none⟩ = some (.slice b.y.a b.y.xs.length b.y.c) ∧ w'.cell? ⟨gb, 4, none⟩ = some (.bool b.w.s) ∧ w'.cell? ⟨gb, 5, none⟩ = some (.slice b.w.a b.w.xs.length b.w.c) ∧ w'.cell? ⟨gb, 6, none⟩ = some (.bool b.h.s) ∧ w'.cell? ⟨gb, 7, none⟩ = some (.slice b.h.a b.h.xs.length b.h.c)) (by kernel_rfl) ?_
      change wpAnyH _ _ _ _ _ _ _ _ ((w7.alloc b.obj).drewN 1)
      rw [← hS2]
      clear hS2
      have hS0 := Xb.cells ((((Below.refl _ _)).block _ (heapLt PS.out)).trans PS.out)
      refine wpAnyH_take (i := 0) (v := ?_) rfl (by kernel_rfl) (by kernel_rfl) (by kernel_rfl) (fun _ _ _ h => h) (Or.inl ⟨by rfl, ?_⟩) hS0 ?_
      rotate_left
      ·
       rintro w' ⟨s0_, s1_, s2_, s3_, s4_, s5_, s6_, s7_⟩
       go_simp
       first | done | with_reducible rfl | rfl
      simp only [Act.put, LA]
      refine wpAnyH_take (i := 1) (v := ?_) rfl (by kernel_rfl) (by kernel_rfl) (by kernel_rfl) (fun _ _ _ h => h) (Or.inl ⟨by rfl, ?_⟩) hS0 ?_
      rotate_left
      ·
       rintro w' ⟨s0_, s1_, s2_, s3_, s4_, s5_, s6_, s7_⟩
       go_simp
       first | done | with_reducible rfl | rfl
      simp only [Act.put, LA]
      refine wpAnyH_take (i := 2) (v := ?_) rfl (by kernel_rfl) (by kernel_rfl) (by kernel_rfl) (fun _ _ _ h => h) (Or.inl ⟨by rfl, ?_⟩) hS0 ?_
      rotate_left
      ·
       rintro w' ⟨s0_, s1_, s2_, s3_, s4_, s5_, s6_, s7_⟩
       go_simp
       first | done | with_reducible rfl | rfl
      simp only [Act.put, LA]
      refine wpAnyH_take (i := 3) (v := ?_) rfl (by kernel_rfl) (by kernel_rfl) (by kernel_rfl) (fun _ _ _ h => h) (Or.inl ⟨by rfl, ?_⟩) hS0 ?_
      rotate_left
      ·
       rintro w' ⟨s0_, s1_, s2_, s3_, s4_, s5_, s6_, s7_⟩
       go_simp
       first | done | with_reducible rfl | rfl
      simp only [Act.put, LA]
      refine wpAnyH_take (i := 5) (v := ?_) rfl (by kernel_rfl) (by kernel_rfl) (by kernel_rfl) (fun _ _ _ h => h) (Or.inl ⟨by rfl, ?_⟩) hS0 ?_
      rotate_left
      ·
       rintro w' ⟨s0_, s1_, s2_, s3_, s4_, s5_, s6_, s7_⟩
       go_simp
       first | done | with_reducible rfl | rfl
      simp only [Act.put, LA]
      refine wpAnyH_take (i := 6) (v := ?_) rfl (by kernel_rfl) (by kernel_rfl) (by kernel_rfl) (fun _ _ _ h => h) (Or.inl ⟨by rfl, ?_⟩) hS0 ?_
      rotate_left
      ·
       rintro w' ⟨s0_, s1_, s2_, s3_, s4_, s5_, s6_, s7_⟩
       go_simp
       first | done | with_reducible rfl | rfl
      simp only [Act.put, LA]
      refine wpAnyH_take (i := 7) (v := ?_) rfl (by kernel_rfl) (by kernel_rfl) (by kernel_rfl) (fun _ _ _ h => h) (Or.inl ⟨by rfl, ?_⟩) hS0 ?_
      rotate_left
      ·
       rintro w' ⟨s0_, s1_, s2_, s3_, s4_, s5_, s6_, s7_⟩
       go_simp
       first | done | with_reducible rfl | rfl
      simp only [Act.put, LA]
      refine wpAnyH_take (i := 8) (v := ?_) rfl (by kernel_rfl) (by kernel_rfl) (by kernel_rfl) (fun _ _ _ h => h) (Or.inl ⟨by rfl, ?_⟩) hS0 ?_
      rotate_left
      ·
       rintro w' ⟨s0_, s1_, s2_, s3_, s4_, s5_, s6_, s7_⟩
       go_simp
       first | done | with_reducible rfl | rfl
      simp only [Act.put, LA]
      refine wpAnyH_states2 (T := Nat × Bool × Bool) (fun x => (2 - x.1) + (if x.2.1 then 0 else 1) + (if x.2.2 then 0 else 1)) (fun x => #[true, true, true, true, decide (1 ≤ x.1), true, true, true, true, decide (2 ≤ x.1), x.2.1, x.2.2, false, false]) (fun x => (2 - x.1) + (if x.2.1 then 0 else 1) + (if x.2.2 then 0 else 1) + 2) (fun z_ a_ W_ => z_.1 ≤ 2 ∧ ∃ v9 v10 t0 t1 t2 t3, a_ = { tmps := #[.slice A n c, cvv u, undef, .pointer (some ⟨w.heap.size, 0, none⟩), .bool false, .pointer (some ⟨g5, 0, none⟩), .bool true, .slice A8 (n + 1) c8, .pointer (some ⟨gs5, 0, none⟩), .bool true, .pointer (some ⟨ga, 0, none⟩), .bool is, .pointer (some ⟨gb, 0, none⟩), .bool true, v9, v10, undef, .bool true, .bool false, .tuple #[.agg #[.slice A5 qn c5], .bool true], .slice A n c, .tuple #[.agg #[.slice A5 qn c5], .bool true], .agg #[.slice A5 qn c5], .bool true, u24, u25, u26, u27, u28, u29, .tuple #[.agg #[.slice A6 pn c6], .bool true], .slice A8 (n + 1) c8, .tuple #[.agg #[.slice A6 pn c6], .bool true], .agg #[.slice A6 pn c6], .bool true, .bool true, .bool false, .bool false, .bool true, .bool false, .bool false, .bool false, .pointer (some ⟨w.heap.size, 4, none⟩), .int .u8 (u.st : Int), .bool false, .bool false, .tuple #[a.val, .bool is], .agg #[.slice A5 qn c5], .tuple #[a.val, .bool is], a.val, .bool is, .tuple #[b.val, .bool true], .agg #[.slice A6 pn c6], .tuple #[b.val, .bool true], b.val, .bool true, .pointer (some ⟨gb, 0, none⟩), .agg #[.bool b.x.s, .slice b.x.a b.x.xs.length b.x.c], .pointer (some ⟨gb, 4, none⟩), .agg #[.bool b.w.s, .slice b.w.a b.w.xs.length b.w.c], t0, .pointer (some ⟨gb, 2, none⟩), .agg #[.bool b.y.s, .slice b.y.a b.y.xs.length b.y.c], .pointer (some ⟨gb, 6, none⟩), .agg #[.bool b.h.s, .slice b.h.a b.h.xs.length b.h.c], t1, undef, undef, undef, undef, undef, undef, undef, undef, undef, undef, undef, undef, undef, undef, undef, undef, undef, undef, undef, undef, undef, undef, undef, undef, undef, undef, undef, undef, undef, undef, undef, undef, undef, undef, undef, undef, undef, undef, undef, undef, undef, undef, undef, undef, undef, undef, undef, undef, undef, undef, undef, undef, undef, undef, undef, undef, undef, undef, undef, undef, undef, undef, undef, undef, undef, undef, undef, undef, undef, undef, undef, undef, undef, undef, undef, undef, undef, undef, undef, undef, undef, undef, undef], defers := [] } ∧ DfI S2 (X2 + V2) (Y2 + Z2) (0) (0) z_.1 z_.2.1 z_.2.2 v9 v10 t0 t1 t2 t3 W_) ?_ (0, false, false) _ _ (by kernel_rfl) (by kernel_rfl) _ _ ⟨by decide, undef, undef, undef, undef, undef, undef, rfl, DfI.start S2 (X2 + V2) (Y2 + Z2) (0) (0) undef undef undef undef undef undef⟩
      rintro ⟨j, p, q⟩ IH a W ⟨hj, v9, v10, t0, t1, t2, t3, rfl, hI⟩
      clear hS0
      dsimp only at hj hI ⊢
      obtain rfl | rfl | rfl : j = 0 ∨ j = 1 ∨ j = 2 := by omega
      ·
       cases p
       ·
        cases q
        ·
         refine wpAnyH_ready (rs := [4, 10, 11]) (by kernel_rfl) (by simp) (AllReadyH.cons rfl (fun K hK => ?_) (AllReadyH.cons rfl (fun K hK => ?_) (AllReadyH.cons rfl (fun K hK => ?_) AllReadyH.nil)))
         ·
          go_simp
          refine (rbadd_any b.x.s b.w.s b.x.a b.w.a b.x.c b.w.c b.x.xs b.w.xs _ (RBS.out.x.next hI.b).us (RBS.out.w.next hI.b).us (by omega) (by omega)).mono ?_
          rintro e w2 h_
          obtain ⟨u, rfl, r_, b_⟩ := retI_bw h_
          rw [RBS.out.x.v, RBS.out.w.v] at r_
          have hN := hI.call0 r_ b_
          dsimp only
          refine hK.out _ _ (Xb.cells (((hN.b).block _ (heapLt PS.out)).trans PS.out)) (fun _ => ?_)
          exact IH (1, false, false) _ _ (by decide) (by kernel_rfl) (by kernel_rfl) _ _ ⟨by decide, _, _, _, _, _, _, rfl, hN⟩
         ·
          go_simp
          refine hK.out _ _ (Xb.cells (((hI.allocP.b).block _ (heapLt PS.out)).trans PS.out)) (fun _ => ?_)
          exact IH (0, true, false) _ _ (by decide) (by kernel_rfl) (by kernel_rfl) _ _ ⟨by decide, _, _, _, _, _, _, rfl, hI.allocP⟩
         ·
          go_simp
          refine hK.out _ _ (Xb.cells (((hI.allocQ.b).block _ (heapLt PS.out)).trans PS.out)) (fun _ => ?_)
          exact IH (0, false, true) _ _ (by decide) (by kernel_rfl) (by kernel_rfl) _ _ ⟨by decide, _, _, _, _, _, _, rfl, hI.allocQ⟩
        ·
         refine wpAnyH_ready (rs := [4, 10]) (by kernel_rfl) (by simp) (AllReadyH.cons rfl (fun K hK => ?_) (AllReadyH.cons rfl (fun K hK => ?_) AllReadyH.nil))
         ·
          go_simp
          refine (rbadd_any b.x.s b.w.s b.x.a b.w.a b.x.c b.w.c b.x.xs b.w.xs _ (RBS.out.x.next hI.b).us (RBS.out.w.next hI.b).us (by omega) (by omega)).mono ?_
          rintro e w2 h_
          obtain ⟨u, rfl, r_, b_⟩ := retI_bw h_
          rw [RBS.out.x.v, RBS.out.w.v] at r_
          have hN := hI.call0 r_ b_
          dsimp only
          refine hK.out _ _ (Xb.cells (((hN.b).block _ (heapLt PS.out)).trans PS.out)) (fun _ => ?_)
          exact IH (1, false, true) _ _ (by decide) (by kernel_rfl) (by kernel_rfl) _ _ ⟨by decide, _, _, _, _, _, _, rfl, hN⟩
         ·
          go_simp
          refine hK.out _ _ (Xb.cells (((hI.allocP.b).block _ (heapLt PS.out)).trans PS.out)) (fun _ => ?_)
          exact IH (0, true, true) _ _ (by decide) (by kernel_rfl) (by kernel_rfl) _ _ ⟨by decide, _, _, _, _, _, _, rfl, hI.allocP⟩
       ·
        cases q
        ·
         refine wpAnyH_ready (rs := [4, 11]) (by kernel_rfl) (by simp) (AllReadyH.cons rfl (fun K hK => ?_) (AllReadyH.cons rfl (fun K hK => ?_) AllReadyH.nil))
         ·
          go_simp
          refine (rbadd_any b.x.s b.w.s b.x.a b.w.a b.x.c b.w.c b.x.xs b.w.xs _ (RBS.out.x.next hI.b).us (RBS.out.w.next hI.b).us (by omega) (by omega)).mono ?_
          rintro e w2 h_
          obtain ⟨u, rfl, r_, b_⟩ := retI_bw h_
          rw [RBS.out.x.v, RBS.out.w.v] at r_
          have hN := hI.call0 r_ b_
          dsimp only
          refine hK.out _ _ (Xb.cells (((hN.b).block _ (heapLt PS.out)).trans PS.out)) (fun _ => ?_)
          exact IH (1, true, false) _ _ (by decide) (by kernel_rfl) (by kernel_rfl) _ _ ⟨by decide, _, _, _, _, _, _, rfl, hN⟩
         ·
          go_simp
          refine hK.out _ _ (Xb.cells (((hI.allocQ.b).block _ (heapLt PS.out)).trans PS.out)) (fun _ => ?_)
          exact IH (0, true, true) _ _ (by decide) (by kernel_rfl) (by kernel_rfl) _ _ ⟨by decide, _, _, _, _, _, _, rfl, hI.allocQ⟩
        ·
         refine wpAnyH_ready (rs := [4]) (by kernel_rfl) (by simp) (AllReadyH.cons rfl (fun K hK => ?_) AllReadyH.nil)
         ·
          go_simp
          refine (rbadd_any b.x.s b.w.s b.x.a b.w.a b.x.c b.w.c b.x.xs b.w.xs _ (RBS.out.x.next hI.b).us (RBS.out.w.next hI.b).us (by omega) (by omega)).mono ?_
          rintro e w2 h_
          obtain ⟨u, rfl, r_, b_⟩ := retI_bw h_
          rw [RBS.out.x.v, RBS.out.w.v] at r_
          have hN := hI.call0 r_ b_
          dsimp only
          refine hK.out _ _ (Xb.cells (((hN.b).block _ (heapLt PS.out)).trans PS.out)) (fun _ => ?_)
          exact IH (1, true, true) _ _ (by decide) (by kernel_rfl) (by kernel_rfl) _ _ ⟨by decide, _, _, _, _, _, _, rfl, hN⟩
      ·
       cases p
       ·
        cases q
        ·
         refine wpAnyH_ready (rs := [9, 10, 11]) (by kernel_rfl) (by simp) (AllReadyH.cons rfl (fun K hK => ?_) (AllReadyH.cons rfl (fun K hK => ?_) (AllReadyH.cons rfl (fun K hK => ?_) AllReadyH.nil)))
         ·
          go_simp
          refine (rbadd_any b.y.s b.h.s b.y.a b.h.a b.y.c b.h.c b.y.xs b.h.xs _ (RBS.out.y.next hI.b).us (RBS.out.h.next hI.b).us (by omega) (by omega)).mono ?_
          rintro e w2 h_
          obtain ⟨u, rfl, r_, b_⟩ := retI_bw h_
          rw [RBS.out.y.v, RBS.out.h.v] at r_
          have hN := hI.call1 r_ b_
          dsimp only
          refine hK.out _ _ (Xb.cells (((hN.b).block _ (heapLt PS.out)).trans PS.out)) (fun _ => ?_)
          exact IH (2, false, false) _ _ (by decide) (by kernel_rfl) (by kernel_rfl) _ _ ⟨by decide, _, _, _, _, _, _, rfl, hN⟩
         ·
          go_simp
          refine hK.out _ _ (Xb.cells (((hI.allocP.b).block _ (heapLt PS.out)).trans PS.out)) (fun _ => ?_)
          exact IH (1, true, false) _ _ (by decide) (by kernel_rfl) (by kernel_rfl) _ _ ⟨by decide, _, _, _, _, _, _, rfl, hI.allocP⟩
         ·
          go_simp
          refine hK.out _ _ (Xb.cells (((hI.allocQ.b).block _ (heapLt PS.out)).trans PS.out)) (fun _ => ?_)
          exact IH (1, false, true) _ _ (by decide) (by kernel_rfl) (by kernel_rfl) _ _ ⟨by decide, _, _, _, _, _, _, rfl, hI.allocQ⟩
        ·
         refine wpAnyH_ready (rs := [9, 10]) (by kernel_rfl) (by simp) (AllReadyH.cons rfl (fun K hK => ?_) (AllReadyH.cons rfl (fun K hK => ?_) AllReadyH.nil))
         ·
          go_simp
          refine (rbadd_any b.y.s b.h.s b.y.a b.h.a b.y.c b.h.c b.y.xs b.h.xs _ (RBS.out.y.next hI.b).us (RBS.out.h.next hI.b).us (by omega) (by omega)).mono ?_
          rintro e w2 h_
          obtain ⟨u, rfl, r_, b_⟩ := retI_bw h_
          rw [RBS.out.y.v, RBS.out.h.v] at r_
          have hN := hI.call1 r_ b_
          dsimp only
          refine hK.out _ _ (Xb.cells (((hN.b).block _ (heapLt PS.out)).trans PS.out)) (fun _ => ?_)
          exact IH (2, false, true) _ _ (by decide) (by kernel_rfl) (by kernel_rfl) _ _ ⟨by decide, _, _, _, _, _, _, rfl, hN⟩
         ·
          go_simp
          refine hK.out _ _ (Xb.cells (((hI.allocP.b).block _ (heapLt PS.out)).trans PS.out)) (fun _ => ?_)
          exact IH (1, true, true) _ _ (by decide) (by kernel_rfl) (by kernel_rfl) _ _ ⟨by decide, _, _, _, _, _, _, rfl, hI.allocP⟩
       ·
        cases q
        ·
         refine wpAnyH_ready (rs := [9, 11]) (by kernel_rfl) (by simp) (AllReadyH.cons rfl (fun K hK => ?_) (AllReadyH.cons rfl (fun K hK => ?_) AllReadyH.nil))
         ·
          go_simp
          refine (rbadd_any b.y.s b.h.s b.y.a b.h.a b.y.c b.h.c b.y.xs b.h.xs _ (RBS.out.y.next hI.b).us (RBS.out.h.next hI.b).us (by omega) (by omega)).mono ?_
          rintro e w2 h_
          obtain ⟨u, rfl, r_, b_⟩ := retI_bw h_
          rw [RBS.out.y.v, RBS.out.h.v] at r_
          have hN := hI.call1 r_ b_
          dsimp only
          refine hK.out _ _ (Xb.cells (((hN.b).block _ (heapLt PS.out)).trans PS.out)) (fun _ => ?_)
          exact IH (2, true, false) _ _ (by decide) (by kernel_rfl) (by kernel_rfl) _ _ ⟨by decide, _, _, _, _, _, _, rfl, hN⟩
         ·
          go_simp
          refine hK.out _ _ (Xb.cells (((hI.allocQ.b).block _ (heapLt PS.out)).trans PS.out)) (fun _ => ?_)
          exact IH (1, true, true) _ _ (by decide) (by kernel_rfl) (by kernel_rfl) _ _ ⟨by decide, _, _, _, _, _, _, rfl, hI.allocQ⟩
        ·
         refine wpAnyH_ready (rs := [9]) (by kernel_rfl) (by simp) (AllReadyH.cons rfl (fun K hK => ?_) AllReadyH.nil)
         ·
          go_simp
          refine (rbadd_any b.y.s b.h.s b.y.a b.h.a b.y.c b.h.c b.y.xs b.h.xs _ (RBS.out.y.next hI.b).us (RBS.out.h.next hI.b).us (by omega) (by omega)).mono ?_
          rintro e w2 h_
          obtain ⟨u, rfl, r_, b_⟩ := retI_bw h_
          rw [RBS.out.y.v, RBS.out.h.v] at r_
          have hN := hI.call1 r_ b_
          dsimp only
          refine hK.out _ _ (Xb.cells (((hN.b).block _ (heapLt PS.out)).trans PS.out)) (fun _ => ?_)
          exact IH (2, true, true) _ _ (by decide) (by kernel_rfl) (by kernel_rfl) _ _ ⟨by decide, _, _, _, _, _, _, rfl, hN⟩
      ·
       cases p
       ·
        cases q
        ·
         refine wpAnyH_ready (rs := [10, 11]) (by kernel_rfl) (by simp) (AllReadyH.cons rfl (fun K hK => ?_) (AllReadyH.cons rfl (fun K hK => ?_) AllReadyH.nil))
         ·
          go_simp
          refine hK.out _ _ (Xb.cells (((hI.allocP.b).block _ (heapLt PS.out)).trans PS.out)) (fun _ => ?_)
          exact IH (2, true, false) _ _ (by decide) (by kernel_rfl) (by kernel_rfl) _ _ ⟨by decide, _, _, _, _, _, _, rfl, hI.allocP⟩
         ·
          go_simp
          refine hK.out _ _ (Xb.cells (((hI.allocQ.b).block _ (heapLt PS.out)).trans PS.out)) (fun _ => ?_)
          exact IH (2, false, true) _ _ (by decide) (by kernel_rfl) (by kernel_rfl) _ _ ⟨by decide, _, _, _, _, _, _, rfl, hI.allocQ⟩
        ·
         refine wpAnyH_ready (rs := [10]) (by kernel_rfl) (by simp) (AllReadyH.cons rfl (fun K hK => ?_) AllReadyH.nil)
         ·
          go_simp
          refine hK.out _ _ (Xb.cells (((hI.allocP.b).block _ (heapLt PS.out)).trans PS.out)) (fun _ => ?_)
          exact IH (2, true, true) _ _ (by decide) (by kernel_rfl) (by kernel_rfl) _ _ ⟨by decide, _, _, _, _, _, _, rfl, hI.allocP⟩
       ·
        cases q
        ·
         refine wpAnyH_ready (rs := [11]) (by kernel_rfl) (by simp) (AllReadyH.cons rfl (fun K hK => ?_) AllReadyH.nil)
         ·
          go_simp
          refine hK.out _ _ (Xb.cells (((hI.allocQ.b).block _ (heapLt PS.out)).trans PS.out)) (fun _ => ?_)
          exact IH (2, true, true) _ _ (by decide) (by kernel_rfl) (by kernel_rfl) _ _ ⟨by decide, _, _, _, _, _, _, rfl, hI.allocQ⟩
        ·
         obtain ⟨g9, g10, u, v, rfl, rfl, ea, eb, z4, z5, m9, m10, hC⟩ := df_last hI.b (hI.s9 rfl) (hI.s10 rfl) (hI.ne rfl rfl) (hI.c0 (by omega)) (hI.c1 (by omega))
         subst ea
         subst eb
         have HC := Lib.hid hC
         have HB_ := Lib.hid hI.b
         have Z5 := Lib.hid z5
         obtain ⟨d0, d1, f0, f1⟩ := zero_cells z4
         clear hI hC IH z4 z5
         refine wpAnyH_ready (rs := [12]) (by kernel_rfl) (by simp) (AllReadyH.cons rfl (fun K hK => ?_) AllReadyH.nil)
         go_simp
         have b9 := below_put1 HB_.out m9 u
         have hS8 := Xb.cells (((b9).block _ (heapLt PS.out)).trans PS.out)
         dsimp only [put1] at hS8
         refine hK.out _ _ hS8 (fun _ => ?_)
         clear hK K d0 d1 f0 f1 hS8
         change wpAnyH _ _ _ _ _ _ _ _ (put1 W g9 u)
         generalize put1 W g9 u = W9 at *
         obtain ⟨d0, d1, f0, f1⟩ := zero_cells Z5.out
         refine wpAnyH_ready (rs := [13]) (by kernel_rfl) (by simp) (AllReadyH.cons rfl (fun K hK => ?_) AllReadyH.nil)
         go_simp
         have b10 := below_put1 b9 m10 v
         have hS9 := Xb.cells (((b10).block _ (heapLt PS.out)).trans PS.out)
         dsimp only [put1] at hS9
         refine hK.out _ _ hS9 (fun _ => ?_)
         clear hK K d0 d1 f0 f1 hS9
         refine wpAnyH_done (by kernel_rfl) ?_ _
         unfold NormalOnly
         go_wp2_with fail
         go_meet
         exact HC.out
     case rest =>
      rename World => WS
      obtain ⟨g14, g15, ue, vs, rfl, rfl, kE, kS, bC, hne, m9, m10⟩ := hcut
      have AC := Lib.hid ((bC.block _ (heapLt AS.out)).trans AS.out)
      have PC := Lib.hid ((bC.block _ (heapLt PS.out)).trans PS.out)
      have KC := Lib.hid ((bC.block _ (heapLt KS.out)).trans KS.out)
      have RAC := Lib.hid (RAS.out.next bC)
      have RBC := Lib.hid (RBS.out.next bC)
      have RUC := Lib.hid (RU.out.next bC)
      have RVC := Lib.hid (RV.out.next bC)
      have BC := Lib.hid (BS.out.trans (bC.mono BS.out.size))
      have KE := Lib.hid kE
      have KS2 := Lib.hid kS
      have LE := LB.out _ _ _ kE.r (by have := bnd.out; omega) (by have := bnd.out; omega)
      have LF := LB.out _ _ _ kS.r (by have := bnd.out; omega) (by have := bnd.out; omega)
      obtain ⟨r1, hr1⟩ : ∃ r, r = ordI X2 x := ⟨_, rfl⟩
      obtain ⟨r2, hr2⟩ : ∃ r, r = ordI x (X2 + V2) := ⟨_, rfl⟩
      obtain ⟨r3, hr3⟩ : ∃ r, r = ordI Y2 y := ⟨_, rfl⟩
      obtain ⟨r4, hr4⟩ : ∃ r, r = ordI y (Y2 + Z2) := ⟨_, rfl⟩
      have t1 : decide (r1 ≤ 0) = true := by rw [hr1, ordI_le]; exact decide_eq_true MO.out.inx.1
      have t2 : decide (r2 < 0) = true := by rw [hr2, ordI_lt]; exact decide_eq_true MO.out.inx.2
      have t3 : decide (r3 ≤ 0) = true := by rw [hr3, ordI_le]; exact decide_eq_true MO.out.iny.1
      have t4 : decide (r4 < 0) = true := by rw [hr4, ordI_lt]; exact decide_eq_true MO.out.iny.2
      have HR1 := Lib.hid hr1
      have HR2 := Lib.hid hr2
      have HR3 := Lib.hid hr3
      have HR4 := Lib.hid hr4
      have N0 := Lib.hid (Below.refl WS.heap.size WS)
      obtain ⟨e0, e1, e2, e3, d0, d1, d2, d3, c0, c1, c2, c3⟩ := mo_cells PC.out KC.out KE.out KS2.out N0.out
      have s0 : True := trivial
      clear kE kS bC hne m9 m10 hr1 hr2 hr3 hr4 AS PS KS RAS RBS RU RV BS
      go_upto_if 98 with (first
       | (have _t := s0; go_at_call 35; clear _t; go_loud (refine (rbcmp_any b.x.s u.sx b.x.a u.ax b.x.c u.cx b.x.xs u.xs _ (RBC.out.x.next N0.out).us (RUC.out.next N0.out).us (by omega) (by omega)).mono ?_; rintro en v1 ⟨rfl, b_⟩; rw [(RBC.out.x.next N0.out).v, (RUC.out.next N0.out).v, ← HR1.out]; have N1 := Lib.hid (N0.out.trans (b_.mono N0.out.size)); clear b_ e0 e1 e2 e3 d0 d1 d2 d3 c0 c1 c2 c3; obtain ⟨e0, e1, e2, e3, d0, d1, d2, d3, c0, c1, c2, c3⟩ := mo_cells PC.out KC.out KE.out KS2.out N1.out; have s1 := s0; clear s0))
       | (have _t := s1; go_at_call 35; clear _t; go_loud (refine (rbcmp_any u.sx ue.s u.ax ue.a u.cx ue.c u.xs ue.xs _ (RUC.out.next N1.out).us (KE.out.r.next N1.out).us (by omega) (by omega)).mono ?_; rintro en v2 ⟨rfl, b_⟩; rw [(RUC.out.next N1.out).v, (KE.out.r.next N1.out).v, ← HR2.out]; have N2 := Lib.hid (N1.out.trans (b_.mono N1.out.size)); clear b_ e0 e1 e2 e3 d0 d1 d2 d3 c0 c1 c2 c3; obtain ⟨e0, e1, e2, e3, d0, d1, d2, d3, c0, c1, c2, c3⟩ := mo_cells PC.out KC.out KE.out KS2.out N2.out; have s2 := s1; clear s1))
       | (have _t := s2; go_at_call 35; clear _t; go_loud (refine (rbcmp_any b.y.s u.sy b.y.a u.ay b.y.c u.cy b.y.xs u.ys _ (RBC.out.y.next N2.out).us (RVC.out.next N2.out).us (by omega) (by omega)).mono ?_; rintro en v3 ⟨rfl, b_⟩; rw [(RBC.out.y.next N2.out).v, (RVC.out.next N2.out).v, ← HR3.out]; have N3 := Lib.hid (N2.out.trans (b_.mono N2.out.size)); clear b_ e0 e1 e2 e3 d0 d1 d2 d3 c0 c1 c2 c3; obtain ⟨e0, e1, e2, e3, d0, d1, d2, d3, c0, c1, c2, c3⟩ := mo_cells PC.out KC.out KE.out KS2.out N3.out; have s3 := s2; clear s2))
       | (have _t := s3; go_at_call 35; clear _t; go_loud (refine (rbcmp_any u.sy vs.s u.ay vs.a u.cy vs.c u.ys vs.xs _ (RVC.out.next N3.out).us (KS2.out.r.next N3.out).us (by omega) (by omega)).mono ?_; rintro en v4 ⟨rfl, b_⟩; rw [(RVC.out.next N3.out).v, (KS2.out.r.next N3.out).v, ← HR4.out]; have N4 := Lib.hid (N3.out.trans (b_.mono N3.out.size)); clear b_ e0 e1 e2 e3 d0 d1 d2 d3 c0 c1 c2 c3; obtain ⟨e0, e1, e2, e3, d0, d1, d2, d3, c0, c1, c2, c3⟩ := mo_cells PC.out KC.out KE.out KS2.out N4.out; have s4 := s3; clear s3)))
      clear t1 t2 t3 t4 e0 e1 e2 e3 d0 d1 d2 d3 c0 c1 c2 c3
      obtain ⟨T, hT⟩ : ∃ T : World, T = v4.drewN 1 := ⟨_, rfl⟩
      have N5 := Lib.hid (show Below WS.heap.size WS T by rw [hT]; exact below_drewN N4.out 1)
      have HT := Lib.hid hT
      clear hT
      cases is with
      | false =>
       go_wp2_with fail
       refine wp_region_noPanic ?_
       refine wp_region_held (S := fun w' => w'.cell? ⟨gb, 4, none⟩ = some (.bool b.w.s) ∧ w'.cell? ⟨gb, 5, none⟩ = some (.slice b.w.a b.w.xs.length b.w.c) ∧ w'.cell? ⟨gb, 6, none⟩ = some (.bool b.h.s) ∧ w'.cell? ⟨gb, 7, none⟩ = some (.slice b.h.a b.h.xs.length b.h.c)) (by kernel_rfl) ?_
       change wpAnyH _ _ _ _ _ _ _ _ (v4.drewN 1)
       rw [← HT.out]
       have hS0 := four_last ((N5.out.block _ (heapLt PC.out)).trans PC.out)
       have M0 := N5
       refine wpAnyH_take (i := 0) (v := ?_) rfl (by kernel_rfl) (by kernel_rfl) (by kernel_rfl) (fun _ _ _ h => h) (Or.inl ⟨by rfl, ?_⟩) hS0 ?_
       rotate_left
       ·
        rintro w' ⟨s0_, s1_, s2_, s3_⟩
        go_simp
        first | done | with_reducible rfl | rfl
       simp only [Act.put, LA]
       refine wpAnyH_take (i := 1) (v := ?_) rfl (by kernel_rfl) (by kernel_rfl) (by kernel_rfl) (fun _ _ _ h => h) (Or.inl ⟨by rfl, ?_⟩) hS0 ?_
       rotate_left
       ·
        rintro w' ⟨s0_, s1_, s2_, s3_⟩
        go_simp
        first | done | with_reducible rfl | rfl
       simp only [Act.put, LA]
       refine wpAnyH_take (i := 2) (v := ?_) rfl (by kernel_rfl) (by kernel_rfl) (by kernel_rfl) (fun _ _ _ h => h) (Or.inl ⟨by rfl, ?_⟩) hS0 ?_
       rotate_left
       ·
        rintro w' ⟨s0_, s1_, s2_, s3_⟩
        go_simp
        first | done | with_reducible rfl | rfl
       simp only [Act.put, LA]
       refine wpAnyH_take (i := 3) (v := ?_) rfl (by kernel_rfl) (by kernel_rfl) (by kernel_rfl) (fun _ _ _ h => h) (Or.inl ⟨by rfl, ?_⟩) hS0 ?_
       rotate_left
       ·
        rintro w' ⟨s0_, s1_, s2_, s3_⟩
        go_simp
        first | done | with_reducible rfl | rfl
       simp only [Act.put, LA]
       refine wpAnyH_ready (rs := [4]) (by kernel_rfl) (by simp) (AllReadyH.cons rfl (fun K hK => ?_) AllReadyH.nil)
       go_simp
       refine (rbof_any 1 _ (by omega) (by omega)).mono ?_
       rintro en T1 h_
       obtain ⟨o1, rfl, r_, b_⟩ := retI_bw h_
       have Ro1 := Lib.hid r_
       dsimp only
       have M1 := Lib.hid (M0.out.trans (b_.mono M0.out.size))
       have hS1 := four_last ((M1.out.block _ (heapLt PC.out)).trans PC.out)
       refine hK.out _ _ hS1 (fun _ => ?_)
       clear hK K
       refine wpAnyH_ready (rs := [5]) (by kernel_rfl) (by simp) (AllReadyH.cons rfl (fun K hK => ?_) AllReadyH.nil)
       go_simp
       refine (rbsame_any b.w.s o1.s b.w.a o1.a b.w.c o1.c b.w.xs o1.xs _ (RBC.out.w.next M1.out).us Ro1.out.us (by omega)).mono ?_
       rintro en T2 ⟨rfl, b_⟩
       rw [show decide (b.w.s = o1.s ∧ b.w.xs = o1.xs) = true from (Bw.same (RBC.out.w.next M1.out) Ro1.out).trans (decide_eq_true (MO.out.one rfl).1)]
       dsimp only
       have M2 := Lib.hid (M1.out.trans (b_.mono M1.out.size))
       have hS2 := four_last ((M2.out.block _ (heapLt PC.out)).trans PC.out)
       refine hK.out _ _ hS2 (fun _ => ?_)
       clear hK K
       refine wpAnyH_take (i := 6) (v := ?_) rfl (by kernel_rfl) (by kernel_rfl) (by kernel_rfl) (fun _ _ _ h => h) (Or.inl ⟨by rfl, ?_⟩) hS2 ?_
       rotate_left
       ·
        rintro w' ⟨s0_, s1_, s2_, s3_⟩
        go_simp
        first | done | with_reducible rfl | rfl
       simp only [Act.put, LA]
       refine wpAnyH_take (i := 7) (v := ?_) rfl (by kernel_rfl) (by kernel_rfl) (by kernel_rfl) (fun _ _ _ h => h) (Or.inl ⟨by rfl, ?_⟩) hS2 ?_
       rotate_left
       ·
        rintro w' ⟨s0_, s1_, s2_, s3_⟩
        go_simp
        first | done | with_reducible rfl | rfl
       simp only [Act.put, LA]
       refine wpAnyH_take (i := 8) (v := ?_) rfl (by kernel_rfl) (by kernel_rfl) (by kernel_rfl) (fun _ _ _ h => h) (Or.inl ⟨by rfl, ?_⟩) hS2 ?_
       rotate_left
       ·
        rintro w' ⟨s0_, s1_, s2_, s3_⟩
        go_simp
        first | done | with_reducible rfl | rfl
       simp only [Act.put, LA]
       refine wpAnyH_take (i := 9) (v := ?_) rfl (by kernel_rfl) (by kernel_rfl) (by kernel_rfl) (fun _ _ _ h => h) (Or.inl ⟨by rfl, ?_⟩) hS2 ?_
       rotate_left
       ·
        rintro w' ⟨s0_, s1_, s2_, s3_⟩
        go_simp
        first | done | with_reducible rfl | rfl
       simp only [Act.put, LA]
       refine wpAnyH_ready (rs := [10]) (by kernel_rfl) (by simp) (AllReadyH.cons rfl (fun K hK => ?_) AllReadyH.nil)
       go_simp
       refine (rbof_any 1 _ (by omega) (by omega)).mono ?_
       rintro en T3 h_
       obtain ⟨o2, rfl, r_, b_⟩ := retI_bw h_
       have Ro2 := Lib.hid r_
       dsimp only
       have M3 := Lib.hid (M2.out.trans (b_.mono M2.out.size))
       have hS3 := four_last ((M3.out.block _ (heapLt PC.out)).trans PC.out)
       refine hK.out _ _ hS3 (fun _ => ?_)
       clear hK K
       refine wpAnyH_ready (rs := [11]) (by kernel_rfl) (by simp) (AllReadyH.cons rfl (fun K hK => ?_) AllReadyH.nil)
       go_simp
       refine (rbsame_any b.h.s o2.s b.h.a o2.a b.h.c o2.c b.h.xs o2.xs _ (RBC.out.h.next M3.out).us Ro2.out.us (by omega)).mono ?_
       rintro en T4 ⟨rfl, b_⟩
       rw [show decide (b.h.s = o2.s ∧ b.h.xs = o2.xs) = true from (Bw.same (RBC.out.h.next M3.out) Ro2.out).trans (decide_eq_true (MO.out.one rfl).2)]
       dsimp only
       have M4 := Lib.hid (M3.out.trans (b_.mono M3.out.size))
       have hS4 := four_last ((M4.out.block _ (heapLt PC.out)).trans PC.out)
       refine hK.out _ _ hS4 (fun _ => ?_)
       clear hK K
       refine wpAnyH_take (i := 12) (v := ?_) rfl (by kernel_rfl) (by kernel_rfl) (by kernel_rfl) (fun _ _ _ h => h) (Or.inl ⟨by rfl, ?_⟩) hS4 ?_
       rotate_left
       ·
        rintro w' ⟨s0_, s1_, s2_, s3_⟩
        go_simp
        first | done | with_reducible rfl | rfl
       simp only [Act.put, LA]
       refine wpAnyH_take (i := 13) (v := ?_) rfl (by kernel_rfl) (by kernel_rfl) (by kernel_rfl) (fun _ _ _ h => h) (Or.inl ⟨by rfl, ?_⟩) hS4 ?_
       rotate_left
       ·
        rintro w' ⟨s0_, s1_, s2_, s3_⟩
        go_simp
        first | done | with_reducible rfl | rfl
       simp only [Act.put, LA]
       refine wpAnyH_done (by kernel_rfl) ?_ _
       refine NoPanic.normal ?_
       go_wp2_with fail
       go_ret
       exact ⟨rfl, BC.out.trans (M4.out.mono BC.out.size)⟩
      | true =>
       go_wp2_with fail
       refine wp_region_noPanic ?_
       refine wp_region_held (S := fun w' => w'.cell? ⟨gb, 0, none⟩ = some (.bool b.x.s) ∧ w'.cell? ⟨gb, 1, none⟩ = some (.slice b.x.a b.x.xs.length b.x.c) ∧ w'.cell? ⟨gb, 2, none⟩ = some (.bool b.y.s) ∧ w'.cell? ⟨gb, 3, none⟩ = some (.slice b.y.a b.y.xs.length b.y.c) ∧ w'.cell? ⟨ga, 0, none⟩ = some (.bool a.x.s) ∧ w'.cell? ⟨ga, 1, none⟩ = some (.slice a.x.a a.x.xs.length a.x.c) ∧ w'.cell? ⟨ga, 2, none⟩ = some (.bool a.y.s) ∧ w'.cell? ⟨ga, 3, none⟩ = some (.slice a.y.a a.y.xs.length a.y.c) ∧ w'.cell? ⟨ga, 4, none⟩ = some (.bool a.w.s) ∧ w'.cell? ⟨ga, 5, none⟩ = some (.slice a.w.a a.w.xs.length a.w.c) ∧ w'.cell? ⟨ga, 6, none⟩ = some (.bool a.h.s) ∧ w'.cell? ⟨ga, 7, none⟩ = some (.slice a.h.a a.h.xs.length a.h.c) ∧ w'.cell? ⟨g14, 0, none⟩ = some (.bool ue.s) ∧ w'.cell? ⟨g14, 1, none⟩ = some (.slice ue.a ue.xs.length ue.c) ∧ w'.cell? ⟨g15, 0, none⟩ = some (.bool vs.s) ∧ w'.cell? ⟨g15, 1, none⟩ = some (.slice vs.a vs.xs.length vs.c)) (by kernel_rfl) ?_
       change wpAnyH _ _ _ _ _ _ _ _ (v4.drewN 1)
       rw [← HT.out]
       have hS0 := mo_all PC.out AC.out KE.out KS2.out N5.out
       have M0 := N5
       refine wpAnyH_take (i := 0) (v := ?_) rfl (by kernel_rfl) (by kernel_rfl) (by kernel_rfl) (fun _ _ _ h => h) (Or.inl ⟨by rfl, ?_⟩) hS0 ?_
       rotate_left
       ·
        rintro w' ⟨s0_, s1_, s2_, s3_, s4_, s5_, s6_, s7_, s8_, s9_, s10_, s11_, s12_, s13_, s14_, s15_⟩
        go_simp
        first | done | with_reducible rfl | rfl
       simp only [Act.put, LA]
       refine wpAnyH_take (i := 1) (v := ?_) rfl (by kernel_rfl) (by kernel_rfl) (by kernel_rfl) (fun _ _ _ h => h) (Or.inl ⟨by rfl, ?_⟩) hS0 ?_
       rotate_left
       ·
        rintro w' ⟨s0_, s1_, s2_, s3_, s4_, s5_, s6_, s7_, s8_, s9_, s10_, s11_, s12_, s13_, s14_, s15_⟩
        go_simp
        first | done | with_reducible rfl | rfl
       simp only [Act.put, LA]
       refine wpAnyH_take (i := 2) (v := ?_) rfl (by kernel_rfl) (by kernel_rfl) (by kernel_rfl) (fun _ _ _ h => h) (Or.inl ⟨by rfl, ?_⟩) hS0 ?_
       rotate_left
       ·
        rintro w' ⟨s0_, s1_, s2_, s3_, s4_, s5_, s6_, s7_, s8_, s9_, s10_, s11_, s12_, s13_, s14_, s15_⟩
        go_simp
        first | done | with_reducible rfl | rfl
       simp only [Act.put, LA]
       refine wpAnyH_take (i := 3) (v := ?_) rfl (by kernel_rfl) (by kernel_rfl) (by kernel_rfl) (fun _ _ _ h => h) (Or.inl ⟨by rfl, ?_⟩) hS0 ?_
       rotate_left
       ·
        rintro w' ⟨s0_, s1_, s2_, s3_, s4_, s5_, s6_, s7_, s8_, s9_, s10_, s11_, s12_, s13_, s14_, s15_⟩
        go_simp
        first | done | with_reducible rfl | rfl
       simp only [Act.put, LA]
       refine wpAnyH_take (i := 4) (v := ?_) rfl (by kernel_rfl) (by kernel_rfl) (by kernel_rfl) (fun _ _ _ h => h) (Or.inl ⟨by rfl, ?_⟩) hS0 ?_
       rotate_left
       ·
        rintro w' ⟨s0_, s1_, s2_, s3_, s4_, s5_, s6_, s7_, s8_, s9_, s10_, s11_, s12_, s13_, s14_, s15_⟩
        go_simp
        first | done | with_reducible rfl | rfl
       simp only [Act.put, LA]
       refine wpAnyH_take (i := 5) (v := ?_) rfl (by kernel_rfl) (by kernel_rfl) (by kernel_rfl) (fun _ _ _ h => h) (Or.inl ⟨by rfl, ?_⟩) hS0 ?_
       rotate_left
       ·
        rintro w' ⟨s0_, s1_, s2_, s3_, s4_, s5_, s6_, s7_, s8_, s9_, s10_, s11_, s12_, s13_, s14_, s15_⟩
        go_simp
        first | done | with_reducible rfl | rfl
       simp only [Act.put, LA]
       refine wpAnyH_ready (rs := [6]) (by kernel_rfl) (by simp) (AllReadyH.cons rfl (fun K hK => ?_) AllReadyH.nil)
       go_simp
       refine (rbcmp_any b.x.s a.x.s b.x.a a.x.a b.x.c a.x.c b.x.xs a.x.xs _ (RBC.out.x.next M0.out).us (RAC.out.x.next M0.out).us (by omega) (by omega)).mono ?_
       rintro en T1 ⟨rfl, b_⟩
       rw [(RBC.out.x.next M0.out).v, (RAC.out.x.next M0.out).v]
       obtain ⟨rr, hrr⟩ : ∃ r, r = ordI (X2) (X) := ⟨_, rfl⟩
       rw [← hrr]
       have tt : decide (rr ≤ 0) = true := by rw [hrr, ordI_le]; exact decide_eq_true (MO.out.more rfl).1
       clear hrr
       dsimp only
       have M1 := Lib.hid (M0.out.trans (b_.mono M0.out.size))
       have hS1 := mo_all PC.out AC.out KE.out KS2.out M1.out
       refine hK.out _ _ hS1 (fun _ => ?_)
       clear hK K
       refine wpAnyH_take (i := 7) (v := ?_) rfl (by kernel_rfl) (by kernel_rfl) (by kernel_rfl) (fun _ _ _ h => h) (Or.inl ⟨by rfl, ?_⟩) hS1 ?_
       rotate_left
       ·
        rintro w' ⟨s0_, s1_, s2_, s3_, s4_, s5_, s6_, s7_, s8_, s9_, s10_, s11_, s12_, s13_, s14_, s15_⟩
        go_simp
        first | done | with_reducible rfl | rfl
       simp only [Act.put, LA]
       refine wpAnyH_take (i := 8) (v := ?_) rfl (by kernel_rfl) (by kernel_rfl) (by kernel_rfl) (fun _ _ _ h => h) (Or.inl ⟨by rfl, ?_⟩) hS1 ?_
       rotate_left
       ·
        rintro w' ⟨s0_, s1_, s2_, s3_, s4_, s5_, s6_, s7_, s8_, s9_, s10_, s11_, s12_, s13_, s14_, s15_⟩
        go_simp
        first | done | with_reducible rfl | rfl
       simp only [Act.put, LA]
       refine wpAnyH_take (i := 9) (v := ?_) rfl (by kernel_rfl) (by kernel_rfl) (by kernel_rfl) (fun _ _ _ h => h) (Or.inl ⟨by rfl, ?_⟩) hS1 ?_
       rotate_left
       ·
        rintro w' ⟨s0_, s1_, s2_, s3_, s4_, s5_, s6_, s7_, s8_, s9_, s10_, s11_, s12_, s13_, s14_, s15_⟩
        go_simp
        first | done | with_reducible rfl | rfl
       simp only [Act.put, LA]
       refine wpAnyH_take (i := 10) (v := ?_) rfl (by kernel_rfl) (by kernel_rfl) (by kernel_rfl) (fun _ _ _ h => h) (Or.inl ⟨by rfl, ?_⟩) hS1 ?_
       rotate_left
       ·
        rintro w' ⟨s0_, s1_, s2_, s3_, s4_, s5_, s6_, s7_, s8_, s9_, s10_, s11_, s12_, s13_, s14_, s15_⟩
        go_simp
        first | done | with_reducible rfl | rfl
       simp only [Act.put, LA]
       refine wpAnyH_take (i := 11) (v := ?_) rfl (by kernel_rfl) (by kernel_rfl) (by kernel_rfl) (fun _ _ _ h => h) (Or.inl ⟨by rfl, ?_⟩) hS1 ?_
       rotate_left
       ·
        rintro w' ⟨s0_, s1_, s2_, s3_, s4_, s5_, s6_, s7_, s8_, s9_, s10_, s11_, s12_, s13_, s14_, s15_⟩
        go_simp
        first | done | with_reducible rfl | rfl
       simp only [Act.put, LA]
       refine wpAnyH_take (i := 12) (v := ?_) rfl (by kernel_rfl) (by kernel_rfl) (by kernel_rfl) (fun _ _ _ h => h) (Or.inl ⟨by rfl, ?_⟩) hS1 ?_
       rotate_left
       ·
        rintro w' ⟨s0_, s1_, s2_, s3_, s4_, s5_, s6_, s7_, s8_, s9_, s10_, s11_, s12_, s13_, s14_, s15_⟩
        go_simp
        first | done | with_reducible rfl | rfl
       simp only [Act.put, LA]
       refine wpAnyH_take (i := 13) (v := ?_) rfl (by kernel_rfl) (by kernel_rfl) (by kernel_rfl) (fun _ _ _ h => h) (Or.inl ⟨by rfl, ?_⟩) hS1 ?_
       rotate_left
       ·
        rintro w' ⟨s0_, s1_, s2_, s3_, s4_, s5_, s6_, s7_, s8_, s9_, s10_, s11_, s12_, s13_, s14_, s15_⟩
        go_simp
        first | done | with_reducible rfl | rfl
       simp only [Act.put, LA]
       clear tt
       refine wpAnyH_ready (rs := [14]) (by kernel_rfl) (by simp) (AllReadyH.cons rfl (fun K hK => ?_) AllReadyH.nil)
       go_simp
       refine (rbcmp_any b.y.s a.y.s b.y.a a.y.a b.y.c a.y.c b.y.xs a.y.xs _ (RBC.out.y.next M1.out).us (RAC.out.y.next M1.out).us (by omega) (by omega)).mono ?_
       rintro en T2 ⟨rfl, b_⟩
       rw [(RBC.out.y.next M1.out).v, (RAC.out.y.next M1.out).v]
       obtain ⟨rr, hrr⟩ : ∃ r, r = ordI (Y2) (Y) := ⟨_, rfl⟩
       rw [← hrr]
       have tt : decide (rr ≤ 0) = true := by rw [hrr, ordI_le]; exact decide_eq_true (MO.out.more rfl).2.1
       clear hrr
       dsimp only
       have M2 := Lib.hid (M1.out.trans (b_.mono M1.out.size))
       have hS2 := mo_all PC.out AC.out KE.out KS2.out M2.out
       refine hK.out _ _ hS2 (fun _ => ?_)
       clear hK K
       refine wpAnyH_take (i := 15) (v := ?_) rfl (by kernel_rfl) (by kernel_rfl) (by kernel_rfl) (fun _ _ _ h => h) (Or.inl ⟨by rfl, ?_⟩) hS2 ?_
       rotate_left
       ·
        rintro w' ⟨s0_, s1_, s2_, s3_, s4_, s5_, s6_, s7_, s8_, s9_, s10_, s11_, s12_, s13_, s14_, s15_⟩
        go_simp
        first | done | with_reducible rfl | rfl
       simp only [Act.put, LA]
       refine wpAnyH_take (i := 16) (v := ?_) rfl (by kernel_rfl) (by kernel_rfl) (by kernel_rfl) (fun _ _ _ h => h) (Or.inl ⟨by rfl, ?_⟩) hS2 ?_
       rotate_left
       ·
        rintro w' ⟨s0_, s1_, s2_, s3_, s4_, s5_, s6_, s7_, s8_, s9_, s10_, s11_, s12_, s13_, s14_, s15_⟩
        go_simp
        first | done | with_reducible rfl | rfl
       simp only [Act.put, LA]
       refine wpAnyH_take (i := 17) (v := ?_) rfl (by kernel_rfl) (by kernel_rfl) (by kernel_rfl) (fun _ _ _ h => h) (Or.inl ⟨by rfl, ?_⟩) hS2 ?_
       rotate_left
       ·
        rintro w' ⟨s0_, s1_, s2_, s3_, s4_, s5_, s6_, s7_, s8_, s9_, s10_, s11_, s12_, s13_, s14_, s15_⟩
        go_simp
        first | done | with_reducible rfl | rfl
       simp only [Act.put, LA]
       refine wpAnyH_take (i := 18) (v := ?_) rfl (by kernel_rfl) (by kernel_rfl) (by kernel_rfl) (fun _ _ _ h => h) (Or.inl ⟨by rfl, ?_⟩) hS2 ?_
       rotate_left
       ·
        rintro w' ⟨s0_, s1_, s2_, s3_, s4_, s5_, s6_, s7_, s8_, s9_, s10_, s11_, s12_, s13_, s14_, s15_⟩
        go_simp
        first | done | with_reducible rfl | rfl
       simp only [Act.put, LA]
       refine wpAnyH_take (i := 19) (v := ?_) rfl (by kernel_rfl) (by kernel_rfl) (by kernel_rfl) (fun _ _ _ h => h) (Or.inl ⟨by rfl, ?_⟩) hS2 ?_
       rotate_left
       ·
        rintro w' ⟨s0_, s1_, s2_, s3_, s4_, s5_, s6_, s7_, s8_, s9_, s10_, s11_, s12_, s13_, s14_, s15_⟩
        go_simp
        first | done | with_reducible rfl | rfl
       simp only [Act.put, LA]
       refine wpAnyH_take (i := 20) (v := ?_) rfl (by kernel_rfl) (by kernel_rfl) (by kernel_rfl) (fun _ _ _ h => h) (Or.inl ⟨by rfl, ?_⟩) hS2 ?_
       rotate_left
       ·
        rintro w' ⟨s0_, s1_, s2_, s3_, s4_, s5_, s6_, s7_, s8_, s9_, s10_, s11_, s12_, s13_, s14_, s15_⟩
        go_simp
        first | done | with_reducible rfl | rfl
       simp only [Act.put, LA]
       refine wpAnyH_take (i := 21) (v := ?_) rfl (by kernel_rfl) (by kernel_rfl) (by kernel_rfl) (fun _ _ _ h => h) (Or.inl ⟨by rfl, ?_⟩) hS2 ?_
       rotate_left
       ·
        rintro w' ⟨s0_, s1_, s2_, s3_, s4_, s5_, s6_, s7_, s8_, s9_, s10_, s11_, s12_, s13_, s14_, s15_⟩
        go_simp
        first | done | with_reducible rfl | rfl
       simp only [Act.put, LA]
       refine wpAnyH_take (i := 23) (v := ?_) rfl (by kernel_rfl) (by kernel_rfl) (by kernel_rfl) (fun _ _ _ h => h) (Or.inl ⟨by rfl, ?_⟩) hS2 ?_
       rotate_left
       ·
        rintro w' ⟨s0_, s1_, s2_, s3_, s4_, s5_, s6_, s7_, s8_, s9_, s10_, s11_, s12_, s13_, s14_, s15_⟩
        go_simp
        first | done | with_reducible rfl | rfl
       simp only [Act.put, LA]
       clear tt
       refine wpAnyH_ready (rs := [22]) (by kernel_rfl) (by simp) (AllReadyH.cons rfl (fun K hK => ?_) AllReadyH.nil)
       go_simp
       refine (rbadd_any a.x.s a.w.s a.x.a a.w.a a.x.c a.w.c a.x.xs a.w.xs _ (RAC.out.x.next M2.out).us (RAC.out.w.next M2.out).us (by omega) (by omega)).mono ?_
       rintro en T3 h_
       obtain ⟨o1, rfl, r_, b_⟩ := retI_bw h_
       rw [(RAC.out.x.next M2.out).v, (RAC.out.w.next M2.out).v] at r_
       have Ro1 := Lib.hid r_
       have lo1 := LB.out _ _ _ r_ (by have := bna.out; omega) (by have := bna.out; omega)
       dsimp only
       have M3 := Lib.hid (M2.out.trans (b_.mono M2.out.size))
       have hS3 := mo_all PC.out AC.out KE.out KS2.out M3.out
       refine hK.out _ _ hS3 (fun _ => ?_)
       clear hK K
       refine wpAnyH_ready (rs := [24]) (by kernel_rfl) (by simp) (AllReadyH.cons rfl (fun K hK => ?_) AllReadyH.nil)
       go_simp
       refine (rbcmp_any o1.s ue.s o1.a ue.a o1.c ue.c o1.xs ue.xs _ Ro1.out.us (KE.out.r.next M3.out).us (by omega) (by omega)).mono ?_
       rintro en T4 ⟨rfl, b_⟩
       rw [Ro1.out.v, (KE.out.r.next M3.out).v]
       obtain ⟨rr, hrr⟩ : ∃ r, r = ordI (X + V) (X2 + V2) := ⟨_, rfl⟩
       rw [← hrr]
       have tt : decide (rr ≤ 0) = true := by rw [hrr, ordI_le]; exact decide_eq_true (MO.out.more rfl).2.2.1
       clear hrr
       dsimp only
       have M4 := Lib.hid (M3.out.trans (b_.mono M3.out.size))
       have hS4 := mo_all PC.out AC.out KE.out KS2.out M4.out
       refine hK.out _ _ hS4 (fun _ => ?_)
       clear hK K
       refine wpAnyH_take (i := 25) (v := ?_) rfl (by kernel_rfl) (by kernel_rfl) (by kernel_rfl) (fun _ _ _ h => h) (Or.inl ⟨by rfl, ?_⟩) hS4 ?_
       rotate_left
       ·
        rintro w' ⟨s0_, s1_, s2_, s3_, s4_, s5_, s6_, s7_, s8_, s9_, s10_, s11_, s12_, s13_, s14_, s15_⟩
        go_simp
        first | done | with_reducible rfl | rfl
       simp only [Act.put, LA]
       refine wpAnyH_take (i := 26) (v := ?_) rfl (by kernel_rfl) (by kernel_rfl) (by kernel_rfl) (fun _ _ _ h => h) (Or.inl ⟨by rfl, ?_⟩) hS4 ?_
       rotate_left
       ·
        rintro w' ⟨s0_, s1_, s2_, s3_, s4_, s5_, s6_, s7_, s8_, s9_, s10_, s11_, s12_, s13_, s14_, s15_⟩
        go_simp
        first | done | with_reducible rfl | rfl
       simp only [Act.put, LA]
       refine wpAnyH_take (i := 27) (v := ?_) rfl (by kernel_rfl) (by kernel_rfl) (by kernel_rfl) (fun _ _ _ h => h) (Or.inl ⟨by rfl, ?_⟩) hS4 ?_
       rotate_left
       ·
        rintro w' ⟨s0_, s1_, s2_, s3_, s4_, s5_, s6_, s7_, s8_, s9_, s10_, s11_, s12_, s13_, s14_, s15_⟩
        go_simp
        first | done | with_reducible rfl | rfl
       simp only [Act.put, LA]
       refine wpAnyH_take (i := 28) (v := ?_) rfl (by kernel_rfl) (by kernel_rfl) (by kernel_rfl) (fun _ _ _ h => h) (Or.inl ⟨by rfl, ?_⟩) hS4 ?_
       rotate_left
       ·
        rintro w' ⟨s0_, s1_, s2_, s3_, s4_, s5_, s6_, s7_, s8_, s9_, s10_, s11_, s12_, s13_, s14_, s15_⟩
        go_simp
        first | done | with_reducible rfl | rfl
       simp only [Act.put, LA]
       refine wpAnyH_take (i := 29) (v := ?_) rfl (by kernel_rfl) (by kernel_rfl) (by kernel_rfl) (fun _ _ _ h => h) (Or.inl ⟨by rfl, ?_⟩) hS4 ?_
       rotate_left
       ·
        rintro w' ⟨s0_, s1_, s2_, s3_, s4_, s5_, s6_, s7_, s8_, s9_, s10_, s11_, s12_, s13_, s14_, s15_⟩
        go_simp
        first | done | with_reducible rfl | rfl
       simp only [Act.put, LA]
       refine wpAnyH_take (i := 30) (v := ?_) rfl (by kernel_rfl) (by kernel_rfl) (by kernel_rfl) (fun _ _ _ h => h) (Or.inl ⟨by rfl, ?_⟩) hS4 ?_
       rotate_left
       ·
        rintro w' ⟨s0_, s1_, s2_, s3_, s4_, s5_, s6_, s7_, s8_, s9_, s10_, s11_, s12_, s13_, s14_, s15_⟩
        go_simp
        first | done | with_reducible rfl | rfl
       simp only [Act.put, LA]
       refine wpAnyH_take (i := 31) (v := ?_) rfl (by kernel_rfl) (by kernel_rfl) (by kernel_rfl) (fun _ _ _ h => h) (Or.inl ⟨by rfl, ?_⟩) hS4 ?_
       rotate_left
       ·
        rintro w' ⟨s0_, s1_, s2_, s3_, s4_, s5_, s6_, s7_, s8_, s9_, s10_, s11_, s12_, s13_, s14_, s15_⟩
        go_simp
        first | done | with_reducible rfl | rfl
       simp only [Act.put, LA]
       refine wpAnyH_take (i := 33) (v := ?_) rfl (by kernel_rfl) (by kernel_rfl) (by kernel_rfl) (fun _ _ _ h => h) (Or.inl ⟨by rfl, ?_⟩) hS4 ?_
       rotate_left
       ·
        rintro w' ⟨s0_, s1_, s2_, s3_, s4_, s5_, s6_, s7_, s8_, s9_, s10_, s11_, s12_, s13_, s14_, s15_⟩
        go_simp
        first | done | with_reducible rfl | rfl
       simp only [Act.put, LA]
       clear tt
       refine wpAnyH_ready (rs := [32]) (by kernel_rfl) (by simp) (AllReadyH.cons rfl (fun K hK => ?_) AllReadyH.nil)
       go_simp
       refine (rbadd_any a.y.s a.h.s a.y.a a.h.a a.y.c a.h.c a.y.xs a.h.xs _ (RAC.out.y.next M4.out).us (RAC.out.h.next M4.out).us (by omega) (by omega)).mono ?_
       rintro en T5 h_
       obtain ⟨o2, rfl, r_, b_⟩ := retI_bw h_
       rw [(RAC.out.y.next M4.out).v, (RAC.out.h.next M4.out).v] at r_
       have Ro2 := Lib.hid r_
       have lo2 := LB.out _ _ _ r_ (by have := bna.out; omega) (by have := bna.out; omega)
       dsimp only
       have M5 := Lib.hid (M4.out.trans (b_.mono M4.out.size))
       have hS5 := mo_all PC.out AC.out KE.out KS2.out M5.out
       refine hK.out _ _ hS5 (fun _ => ?_)
       clear hK K
       refine wpAnyH_ready (rs := [34]) (by kernel_rfl) (by simp) (AllReadyH.cons rfl (fun K hK => ?_) AllReadyH.nil)
       go_simp
       refine (rbcmp_any o2.s vs.s o2.a vs.a o2.c vs.c o2.xs vs.xs _ Ro2.out.us (KS2.out.r.next M5.out).us (by omega) (by omega)).mono ?_
       rintro en T6 ⟨rfl, b_⟩
       rw [Ro2.out.v, (KS2.out.r.next M5.out).v]
       obtain ⟨rr, hrr⟩ : ∃ r, r = ordI (Y + H) (Y2 + Z2) := ⟨_, rfl⟩
       rw [← hrr]
       have tt : decide (rr ≤ 0) = true := by rw [hrr, ordI_le]; exact decide_eq_true (MO.out.more rfl).2.2.2
       clear hrr
       dsimp only
       have M6 := Lib.hid (M5.out.trans (b_.mono M5.out.size))
       have hS6 := mo_all PC.out AC.out KE.out KS2.out M6.out
       refine hK.out _ _ hS6 (fun _ => ?_)
       clear hK K
       refine wpAnyH_take (i := 35) (v := ?_) rfl (by kernel_rfl) (by kernel_rfl) (by kernel_rfl) (fun _ _ _ h => h) (Or.inl ⟨by rfl, ?_⟩) hS6 ?_
       rotate_left
       ·
        rintro w' ⟨s0_, s1_, s2_, s3_, s4_, s5_, s6_, s7_, s8_, s9_, s10_, s11_, s12_, s13_, s14_, s15_⟩
        go_simp
        first | done | with_reducible rfl | rfl
       simp only [Act.put, LA]
       refine wpAnyH_take (i := 36) (v := ?_) rfl (by kernel_rfl) (by kernel_rfl) (by kernel_rfl) (fun _ _ _ h => h) (Or.inl ⟨by rfl, ?_⟩) hS6 ?_
       rotate_left
       ·
        rintro w' ⟨s0_, s1_, s2_, s3_, s4_, s5_, s6_, s7_, s8_, s9_, s10_, s11_, s12_, s13_, s14_, s15_⟩
        go_simp
        first | done | with_reducible rfl | rfl
       simp only [Act.put, LA]
       refine wpAnyH_take (i := 37) (v := ?_) rfl (by kernel_rfl) (by kernel_rfl) (by kernel_rfl) (fun _ _ _ h => h) (Or.inl ⟨by rfl, ?_⟩) hS6 ?_
       rotate_left
       ·
        rintro w' ⟨s0_, s1_, s2_, s3_, s4_, s5_, s6_, s7_, s8_, s9_, s10_, s11_, s12_, s13_, s14_, s15_⟩
        go_simp
        first | done | with_reducible rfl | rfl
       simp only [Act.put, LA]
       refine wpAnyH_done (by kernel_rfl) ?_ _
       refine NoPanic.normal ?_
       go_wp2_with fail
       go_ret
       exact ⟨rfl, BC.out.trans (M6.out.mono BC.out.size)⟩
theorem boxmore_law (A : Option Addr) (c : Nat) (l : List Cv) (u : Cv) (w : World) (h : Cs w A c l) (hA : A = none → c = 0) (hu : CvU w u) (hre : l.length * 72 ≤ 140737488351232) :
  Calls Try.prog 9 #[.slice A l.length c, cvv u] w fun e w' => e = .returned (.bool true) ∧ Below w.heap.size w w' :=
 boxmore_any A c _ l u _ _ w h rfl hA hu hre rfl rfl
end Go.Proofs.Ytlnmcilcifbcnaa
