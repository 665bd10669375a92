/-
  look: Set.
  look: Most, the program's and the reference's.
  cells, the reference: List.
-/
import Derived.Test.YtlnmcilcifbcnaaGLkSp
import Derived.Test.YtlnmcilcifbcnaaGClK2
import Derived.Deep.RegionHeld3
import Derived.Test.YtlnmcilcifbcnaaGNcPB
import Derived.LoopN
import Derived.Test.YtlnmcilcifbcnaaGClLs
import Derived.Test.YtlnmcilcifbcnaaGClVp
import Derived.Test.YtlnmcilcifbcnaaGClWi
import Derived.Test.YtlnmcilcifbcnaaGNcRS
import Derived.Test.YtlnmcilcifbcnaaGNdsW
import Derived.Deep.RegionWith
import Derived.StillTailTactics
import Derived.Test.YtlnmcilcifbcnaaGNdRLoose
import Derived.Test.YtlnmcilcifbcnaaGClPj

set_option linter.unusedVariables false
set_option linter.unusedSimpArgs false
set_option maxRecDepth 100000
namespace Go.Proofs.Ytlnmcilcifbcnaa
open Go.RowKit Num Nds
theorem inR_iff {X Y : Int} {M : Nat} (hM : M = max (rcI X) (rcI Y)) : M ≤ 1328 ↔ inR X ∧ inR Y := by
 unfold inR
 rw [← rc_iff X 1328, ← rc_iff Y 1328, hM]
 omega
set_option maxHeartbeats 6400000 in
theorem set_lk (A A1 A2 : Option Addr) (c n d1 d2 : Nat) (s t : Bool) (q : List Nd) (xs ys : List Nat) (k : Nat) (w : World) (h : Ns w A c q) (hn : q.length = n) (hn9 : n ≤ 800000) (hA : A = none → c = 0) (hq : QS q) (hx : Us w A1 d1 xs) (hy : Us w A2 d2 ys) (kx : CanonI s xs) (ky : CanonI t ys) (hl : xs.length ≤ 50000) (kl : ys.length ≤ 50000) (hk : k ≤ 255) :
  Calls Try.prog 14 #[.agg #[.slice A n c], .agg #[.bool s, .slice A1 xs.length d1], .agg #[.bool t, .slice A2 ys.length d2], .int .u8 (k : Int)] w (RetLk q (ival s xs) (ival t ys) (k : Int) w) := by
 have hcap := h.cap
 rw [hn] at hcap
 have xcap := hx.cap
 have ycap := hy.cap
 obtain ⟨RR, hRR⟩ : ∃ RR, RR = RetLk q (ival s xs) (ival t ys) (k : Int) w := ⟨_, rfl⟩
 rw [← hRR]
 have HRR := Lib.hid hRR
 obtain ⟨X, hX⟩ : ∃ X, X = ival s xs := ⟨_, rfl⟩
 obtain ⟨Y, hY⟩ : ∃ Y, Y = ival t ys := ⟨_, rfl⟩
 obtain ⟨R, hR⟩ : ∃ R, R = getQ q X Y := ⟨_, rfl⟩
 have hRb := getQ_byte hq.1 X Y
 rw [← hR] at hRb
 obtain ⟨W, hW⟩ : ∃ W : World, W = ((((w.alloc (.cells #[.slice A n c] 31)).alloc (.cells #[.bool s, .slice A1 xs.length d1] 25)).alloc (.cells #[.bool t, .slice A2 ys.length d2] 25)).alloc (.cells #[.slice none 0 0] 31)) := ⟨_, rfl⟩
 have hS : StW w W A c n q s A1 d1 xs t A2 d2 ys := by rw [hW]; exact StW.start w A c n q s A1 d1 xs t A2 d2 ys h hx hy
 obtain ⟨lq, hlq⟩ : ∃ lq, lq = levelZ q := ⟨_, rfl⟩
 obtain ⟨M, hM⟩ : ∃ M : Nat, M = max (rcI X) (rcI Y) := ⟨_, rfl⟩
 have hlm := level_most hq.1
 rw [← hlq] at hlm
 have hM9 : M ≤ 1700000 := by
  have h1 := rc_len hx.1 hl (s := s)
  have h2 := rc_len hy.1 kl (s := t)
  rw [hM, hX, hY]
  omega
 have hin := inR_iff hM
 have hout : 1329 ≤ M → R = 0 := fun h9 => by rw [hR]; exact getQ_out hq.1 (by rw [← hlq, ← hM]; omega)
 have HXV := Lib.hid hX
 have HYV := Lib.hid hY
 have HIN := Lib.hid hin
 have HOUT := Lib.hid hout
 have S0 := Lib.hid hS
 have HW := Lib.hid hW
 have KX := Lib.hid kx
 have KY := Lib.hid ky
 have HLE := Lib.hid hn
 have HQ := Lib.hid hq
 have HR := Lib.hid hR
 have HLQ := Lib.hid hlq
 have HM := Lib.hid hM
 have HA := Lib.hid hA
 obtain ⟨a0, x1, x2, y1, y2, r0, rf⟩ := hS.at_
 rw [hW] at a0 x1 x2 y1 y2 r0 rf
 clear h hn hq hx hy kx ky hR hS hlq hM hin hout hW hA hRR hX hY
 by_cases hk0 : k = 0
 ·
  subst hk0
  have tg : (((0 : Nat) : Int) != 0) = false := rfl
  have S1 := S0
  have q1 : True := trivial
  by_cases hRe : R = ((0 : Nat) : Int)
  ·
   have te : (R == ((0 : Nat) : Int)) = true := beq_iff_eq.2 hRe
   have te' : (R == (0 : Int)) = true := te
   go_enter Try.func14, Try.ntmps14
   go_wp2_with (first
   | (have _t := q1; go_at_call 16; (try rw [← HW.out]); clear _t; go_loud (refine (get_lk A A1 A2 c n d1 d2 s t q xs ys _ S1.out.ns HLE.out HQ.out.1 S1.out.ux S1.out.uy KX.out KY.out hl kl).mono ?_; rintro e w2 ⟨rfl, b2⟩; rw [← HXV.out, ← HYV.out, ← HR.out]; have S2 := Lib.hid (S1.out.next b2); have D2 := Lib.hid (S2.out.next (Below.drew' (Below.refl _ _))); obtain ⟨a0, x1, x2, y1, y2, r0, rf⟩ := S2.out.at_; clear b2; have q2 := q1; clear q1))
   | (have _t := q2; go_at_call 40; (try rw [← HW.out]); clear _t; go_loud (refine (clone_any A c n q _ S2.out.ns HLE.out (by omega) HA.out).mono ?_; rintro e w3 ⟨v3, rfl, o3, b3⟩; have S3 := Lib.hid (S2.out.next b3); obtain ⟨a0, x1, x2, y1, y2, r0, rf⟩ := S3.out.at_; obtain ⟨A3, c3, hv3, n3, a3, -⟩ := o3.shape; rw [HLE.out] at hv3; subst hv3; have N3 := Lib.hid n3; have HA3 := Lib.hid a3; clear b3 o3 n3 a3; have q3 := q2; clear q2)))
   have e1 := World.cell?_setCell_same _ _ (.slice A3 n c3) r0
   refine bodyPost_ret (v := .tuple #[.agg #[.slice A3 n c3], .int .i64 0]) (by simp [results, Try.results14, go_sem, e1]) rfl ?_
   rw [HRR.out]
   refine ⟨A3, c3, q, 0, by rw [HLE.out], ns_boxed N3.out S3.out.br, HA3.out, S3.out.done _, by omega, ?_⟩
   unfold SetE
   rw [← HXV.out, ← HYV.out, if_neg (fun h => h.1 rfl)]
   exact ⟨rfl, set_same HQ.out (hRe.symm.trans HR.out)⟩
  ·
   have te : (R == ((0 : Nat) : Int)) = false := beq_eq_false_iff_ne.2 hRe
   have te' : (R == (0 : Int)) = false := te
   have hM2 : M ≤ 1328 := Nat.le_of_not_lt fun h => hRe (HOUT.out h)
   obtain ⟨m, hm, hm9⟩ : ∃ m : Nat, max lq ((M : Int) + 1) = (m : Int) + 1 ∧ m ≤ 1328 := ⟨(max lq ((M : Int) + 1) - 1).toNat, by omega, by omega⟩
   have hmr : M ≤ m := by omega
   have hXr := (rc_iff X m).1 (by have := HM.out; omega)
   have hYr := (rc_iff Y m).1 (by have := HM.out; omega)
   have HXR := Lib.hid hXr
   have HYR := Lib.hid hYr
   obtain ⟨G, hG⟩ : ∃ G, G = growQ (m + 1) q := ⟨_, rfl⟩
   obtain ⟨gl, hgl⟩ : ∃ gl, gl = G.length := ⟨_, rfl⟩
   obtain ⟨r, hr⟩ : ∃ r, r = setF (m + 1) q X Y ((0 : Nat) : Int) := ⟨_, rfl⟩
   obtain ⟨p1, p2_, p3⟩ := set_spec HQ.out (lv := m + 1) (by omega) (by omega) (fun h0 => by have h1 := HLQ.out; unfold levelZ at h1; rw [if_neg (fun e => by rw [e] at h0; exact absurd h0 (Nat.lt_irrefl 0))] at h1; omega) (X := X) (Y := Y) (s := ((0 : Nat) : Int)) hXr hYr (by omega)
   rw [← hr] at p1 p2_ p3
   have hgl9 : gl ≤ 810000 := by have := (grow_ok HQ.out (lv := m + 1) (by omega) (by omega) (by have := HLQ.out; omega)).2.2; have := HLE.out; rw [hgl, hG]; omega
   obtain ⟨q2, hq2⟩ : ∃ q2, q2 = ofQ r.1 r.2 := ⟨_, rfl⟩
   have HQN := Lib.hid (show q2.length ≤ q.length + 12 * 1329 by rw [hq2]; have := ofQ_len r.1 r.2; omega)
   have HER := Lib.hid (show ofE r.1 r.2 = 0 by unfold ofE; rw [if_pos p1])
   rw [← hq2] at p2_
   have hq29 : q2.length ≤ 900000 := by have := HQN.out; have := HLE.out; omega
   have HSO := Lib.hid p2_
   have HRN := Lib.hid (show r.1.length ≤ 880000 by have := HLE.out; omega)
   have HQ2 := Lib.hid hq2
   have HG := Lib.hid hG
   have HGL := Lib.hid hgl
   have HRF := Lib.hid hr
   clear hXr hYr hG hgl hr p1 p2_ p3 hq2
   go_enter Try.func14, Try.ntmps14
   go_wp2_with (first
   | (have _t := q1; go_at_call 16; (try rw [← HW.out]); clear _t; go_loud (refine (get_lk A A1 A2 c n d1 d2 s t q xs ys _ S1.out.ns HLE.out HQ.out.1 S1.out.ux S1.out.uy KX.out KY.out hl kl).mono ?_; rintro e w2 ⟨rfl, b2⟩; rw [← HXV.out, ← HYV.out, ← HR.out]; have S2 := Lib.hid (S1.out.next b2); have D2 := Lib.hid (S2.out.next (Below.drew' (Below.refl _ _))); obtain ⟨a0, x1, x2, y1, y2, r0, rf⟩ := S2.out.at_; clear b2; have q2 := q1; clear q1)))
   go_region_held3 (fun w' => w'.cell? ⟨w.heap.size, 0, none⟩ = some (.slice A n c) ∧ w'.cell? ⟨w.heap.size + 1, 0, none⟩ = some (.bool s) ∧ w'.cell? ⟨w.heap.size + 1, 1, none⟩ = some (.slice A1 xs.length d1) ∧ w'.cell? ⟨w.heap.size + 1 + 1, 0, none⟩ = some (.bool t) ∧ w'.cell? ⟨w.heap.size + 1 + 1, 1, none⟩ = some (.slice A2 ys.length d2))
    (first | exact ⟨a0, x1, x2, y1, y2⟩ | go_keep | fail)
    (first
   | (have _t := q2; go_at_call 41; (try rw [← HW.out]); clear _t; go_loud (refine (nlevel_any A c n q _ D2.out.ns HLE.out).mono ?_; rintro e w3 ⟨rfl, b3⟩; rw [← HLQ.out]; have S3 := Lib.hid (D2.out.next b3); obtain ⟨a0, x1, x2, y1, y2, r0, rf⟩ := S3.out.at_; clear b3; have q3 := q2; clear q2))
   | (have _t := q3; go_at_call 39; (try rw [← HW.out]); clear _t; go_loud (refine (least_lk s t A1 A2 d1 d2 xs ys _ S3.out.ux S3.out.uy KX.out KY.out hl kl).mono ?_; rintro e w4 ⟨rfl, b4⟩; rw [← HXV.out, ← HYV.out, ← HM.out]; have S4 := Lib.hid (S3.out.next b4); obtain ⟨a0, x1, x2, y1, y2, r0, rf⟩ := S4.out.at_; clear b4; have q4 := q3; clear q3)))
   go_wp2_with (first
   | (have _t := q4; go_at_call 42; (try rw [← HW.out]); clear _t; go_loud (refine (grow_at A c n m q G gl HG.out HGL.out _ S4.out.ns HLE.out hn9 HQ.out.1 hm9 HA.out).mono ?_; rintro e w5 ⟨A5, c5, rfl, n5, a5, ab5, hc5, hd5, b5⟩; have S5 := Lib.hid (S4.out.next b5); obtain ⟨a0, x1, x2, y1, y2, r0, rf⟩ := S5.out.at_; have N5 := Lib.hid n5; have HA5 := Lib.hid a5; have HB5 := Lib.hid ab5; clear b5 n5 a5 ab5; have q5 := q4; clear q4))
   | (have _t := q5; go_at_call 43; (try rw [← HW.out]); clear _t; go_loud (refine (inside_lk s t A1 A2 d1 d2 xs ys m _ S5.out.ux S5.out.uy hl kl (by omega)).mono ?_; rintro e w6 ⟨v, rfl, u6, k6, l6, e6, f6, b6⟩; rw [← HXV.out] at e6; rw [← HYV.out] at f6; have S6 := Lib.hid (S5.out.next b6); have N6 := Lib.hid (N5.out.below b6); have Z6 := Lib.hid b6.size; have U6 := Lib.hid u6; have K6 := Lib.hid k6; have L6 := Lib.hid l6; have E6 := Lib.hid e6; have F6 := Lib.hid f6; have v1 := u6.1.cap; have v2 := u6.2.1.cap; clear b6 u6 k6 l6 e6 f6; have q6 := q5; clear q5))
   | (have _t := q6; go_at_call 44; (try rw [← HW.out]); clear _t; go_loud (refine (clip_any A5 gl c5 _ ⟨hc5, hd5⟩).mono ?_; rintro e w7 ⟨rfl, h7⟩; subst h7; obtain ⟨a0, x1, x2, y1, y2, r0, rf⟩ := S6.out.at_; have q7 := q6; clear q6))
   | (have _t := q7; go_at_call 45; (try rw [← HW.out]); clear _t; go_loud (refine (put_at w7.heap.size v 0 gl m A5 q G X Y r HG.out HGL.out HRF.out HQ.out (by have := HLE.out; omega) (by have := HLQ.out; omega) hm9 hk HXR.out HYR.out K6.out L6.out E6.out F6.out HA5.out (fun a ea => by have h1 := HB5.out a ea; have h2 := Z6.out; omega) ⟨fun h0 a ea => by have := us_lt U6.out.1 h0 a ea; omega, fun h0 a ea => by have := us_lt U6.out.2.1 h0 a ea; omega⟩ _ (heap_alloc_new w7 _) (N6.out.below ((Below.refl _ w7).alloc (Nat.le_refl _) _)) (U6.out.below ((Below.refl _ w7).alloc (Nat.le_refl _) _))).mono ?_; rintro e w8 ⟨A4, c4, rfl, b8, n8, a8, k8⟩; have S8 := Lib.hid (S6.out.next (((Below.refl w7.heap.size w7).alloc (Nat.le_refl _) _).trans ((k8.to (B := w7.heap.size) (by simp) (fun i hi => by omega))))); obtain ⟨a0, x1, x2, y1, y2, r0, rf⟩ := S8.out.at_; obtain ⟨-, -, -, -, p4, -⟩ := b8.at_; have N8 := Lib.hid n8; have HA8 := Lib.hid a8; have hc8 := n8.cap; clear b8 n8 a8 k8; have q8 := q7; clear q7))
   | (have _t := q8; go_at_call 46; (try rw [← HW.out]); clear _t; go_loud (refine (pof_any A4 c4 r.1.length r.1 r.2 _ N8.out rfl (by have := HRN.out; omega) HA8.out).mono ?_; rintro e w9 ⟨A9, c9, rfl, n9, a9, b9⟩; rw [← HQ2.out] at n9 ⊢; rw [HER.out]; have S9 := Lib.hid (S8.out.next b9); obtain ⟨a0, x1, x2, y1, y2, r0, rf⟩ := S9.out.at_; have N9 := Lib.hid n9; have HA9 := Lib.hid a9; clear b9 n9 a9; have q9 := q8; clear q8)))
   have e1 := World.cell?_setCell_same _ _ (.slice A9 q2.length c9) r0
   refine bodyPost_ret (v := .tuple #[.agg #[.slice A9 q2.length c9], .int .i64 0]) (by simp [results, Try.results14, go_sem, e1]) rfl ?_
   rw [HRR.out]
   refine ⟨A9, c9, q2, 0, rfl, ns_boxed N9.out S9.out.br, HA9.out, S9.out.done _, by have := HQN.out; omega, ?_⟩
   unfold SetE
   rw [← HXV.out, ← HYV.out, if_neg (fun h => h.2 (HIN.out.1 (by omega)))]
   exact ⟨rfl, HSO.out⟩
 ·
  have tg : (((k : Nat) : Int) != 0) = true := bne_iff_ne.2 (by omega)
  have q0 : True := trivial
  by_cases hM2 : M ≤ 1328
  ·
   have tl : decide ((M : Int) + 1 > 1329) = false := decide_eq_false (by omega)
   have tl' : decide ((1329 : Int) < (M : Int) + 1) = false := tl
   by_cases hRe : R = (k : Int)
   ·
    have te : (R == (k : Int)) = true := beq_iff_eq.2 hRe
    go_enter Try.func14, Try.ntmps14
    go_wp2_with (first
   | (have _t := q0; go_at_call 39; (try rw [← HW.out]); clear _t; go_loud (refine (least_lk s t A1 A2 d1 d2 xs ys _ S0.out.ux S0.out.uy KX.out KY.out hl kl).mono ?_; rintro e w1 ⟨rfl, b1⟩; rw [← HXV.out, ← HYV.out, ← HM.out]; have S1 := Lib.hid (S0.out.next b1); obtain ⟨a0, x1, x2, y1, y2, r0, rf⟩ := S1.out.at_; clear b1; have q1 := q0; clear q0))
   | (have _t := q1; go_at_call 16; (try rw [← HW.out]); clear _t; go_loud (refine (get_lk A A1 A2 c n d1 d2 s t q xs ys _ S1.out.ns HLE.out HQ.out.1 S1.out.ux S1.out.uy KX.out KY.out hl kl).mono ?_; rintro e w2 ⟨rfl, b2⟩; rw [← HXV.out, ← HYV.out, ← HR.out]; have S2 := Lib.hid (S1.out.next b2); have D2 := Lib.hid (S2.out.next (Below.drew' (Below.refl _ _))); obtain ⟨a0, x1, x2, y1, y2, r0, rf⟩ := S2.out.at_; clear b2; have q2 := q1; clear q1))
   | (have _t := q2; go_at_call 40; (try rw [← HW.out]); clear _t; go_loud (refine (clone_any A c n q _ S2.out.ns HLE.out (by omega) HA.out).mono ?_; rintro e w3 ⟨v3, rfl, o3, b3⟩; have S3 := Lib.hid (S2.out.next b3); obtain ⟨a0, x1, x2, y1, y2, r0, rf⟩ := S3.out.at_; obtain ⟨A3, c3, hv3, n3, a3, -⟩ := o3.shape; rw [HLE.out] at hv3; subst hv3; have N3 := Lib.hid n3; have HA3 := Lib.hid a3; clear b3 o3 n3 a3; have q3 := q2; clear q2)))
    have e1 := World.cell?_setCell_same _ _ (.slice A3 n c3) r0
    refine bodyPost_ret (v := .tuple #[.agg #[.slice A3 n c3], .int .i64 0]) (by simp [results, Try.results14, go_sem, e1]) rfl ?_
    rw [HRR.out]
    refine ⟨A3, c3, q, 0, by rw [HLE.out], ns_boxed N3.out S3.out.br, HA3.out, S3.out.done _, by omega, ?_⟩
    unfold SetE
    rw [← HXV.out, ← HYV.out, if_neg (fun h => h.2 (HIN.out.1 hM2))]
    exact ⟨rfl, set_same HQ.out (hRe.symm.trans HR.out)⟩
   ·
    have te : (R == (k : Int)) = false := beq_eq_false_iff_ne.2 hRe
    obtain ⟨m, hm, hm9⟩ : ∃ m : Nat, max lq ((M : Int) + 1) = (m : Int) + 1 ∧ m ≤ 1328 := ⟨(max lq ((M : Int) + 1) - 1).toNat, by omega, by omega⟩
    have hmr : M ≤ m := by omega
    have hXr := (rc_iff X m).1 (by have := HM.out; omega)
    have hYr := (rc_iff Y m).1 (by have := HM.out; omega)
    have HXR := Lib.hid hXr
    have HYR := Lib.hid hYr
    obtain ⟨G, hG⟩ : ∃ G, G = growQ (m + 1) q := ⟨_, rfl⟩
    obtain ⟨gl, hgl⟩ : ∃ gl, gl = G.length := ⟨_, rfl⟩
    obtain ⟨r, hr⟩ : ∃ r, r = setF (m + 1) q X Y (k : Int) := ⟨_, rfl⟩
    obtain ⟨p1, p2_, p3⟩ := set_spec HQ.out (lv := m + 1) (by omega) (by omega) (fun h0 => by have h1 := HLQ.out; unfold levelZ at h1; rw [if_neg (fun e => by rw [e] at h0; exact absurd h0 (Nat.lt_irrefl 0))] at h1; omega) (X := X) (Y := Y) (s := (k : Int)) hXr hYr (by omega)
    rw [← hr] at p1 p2_ p3
    have hgl9 : gl ≤ 810000 := by have := (grow_ok HQ.out (lv := m + 1) (by omega) (by omega) (by have := HLQ.out; omega)).2.2; have := HLE.out; rw [hgl, hG]; omega
    obtain ⟨q2, hq2⟩ : ∃ q2, q2 = ofQ r.1 r.2 := ⟨_, rfl⟩
    have HQN := Lib.hid (show q2.length ≤ q.length + 12 * 1329 by rw [hq2]; have := ofQ_len r.1 r.2; omega)
    have HER := Lib.hid (show ofE r.1 r.2 = 0 by unfold ofE; rw [if_pos p1])
    rw [← hq2] at p2_
    have hq29 : q2.length ≤ 900000 := by have := HQN.out; have := HLE.out; omega
    have HSO := Lib.hid p2_
    have HRN := Lib.hid (show r.1.length ≤ 880000 by have := HLE.out; omega)
    have HQ2 := Lib.hid hq2
    have HG := Lib.hid hG
    have HGL := Lib.hid hgl
    have HRF := Lib.hid hr
    clear hXr hYr hG hgl hr p1 p2_ p3 hq2
    go_enter Try.func14, Try.ntmps14
    go_wp2_with (first
   | (have _t := q0; go_at_call 39; (try rw [← HW.out]); clear _t; go_loud (refine (least_lk s t A1 A2 d1 d2 xs ys _ S0.out.ux S0.out.uy KX.out KY.out hl kl).mono ?_; rintro e w1 ⟨rfl, b1⟩; rw [← HXV.out, ← HYV.out, ← HM.out]; have S1 := Lib.hid (S0.out.next b1); obtain ⟨a0, x1, x2, y1, y2, r0, rf⟩ := S1.out.at_; clear b1; have q1 := q0; clear q0))
   | (have _t := q1; go_at_call 16; (try rw [← HW.out]); clear _t; go_loud (refine (get_lk A A1 A2 c n d1 d2 s t q xs ys _ S1.out.ns HLE.out HQ.out.1 S1.out.ux S1.out.uy KX.out KY.out hl kl).mono ?_; rintro e w2 ⟨rfl, b2⟩; rw [← HXV.out, ← HYV.out, ← HR.out]; have S2 := Lib.hid (S1.out.next b2); have D2 := Lib.hid (S2.out.next (Below.drew' (Below.refl _ _))); obtain ⟨a0, x1, x2, y1, y2, r0, rf⟩ := S2.out.at_; clear b2; have q2 := q1; clear q1)))
    go_region_held3 (fun w' => w'.cell? ⟨w.heap.size, 0, none⟩ = some (.slice A n c) ∧ w'.cell? ⟨w.heap.size + 1, 0, none⟩ = some (.bool s) ∧ w'.cell? ⟨w.heap.size + 1, 1, none⟩ = some (.slice A1 xs.length d1) ∧ w'.cell? ⟨w.heap.size + 1 + 1, 0, none⟩ = some (.bool t) ∧ w'.cell? ⟨w.heap.size + 1 + 1, 1, none⟩ = some (.slice A2 ys.length d2))
     (first | exact ⟨a0, x1, x2, y1, y2⟩ | go_keep | fail)
     (first
   | (have _t := q2; go_at_call 41; (try rw [← HW.out]); clear _t; go_loud (refine (nlevel_any A c n q _ D2.out.ns HLE.out).mono ?_; rintro e w3 ⟨rfl, b3⟩; rw [← HLQ.out]; have S3 := Lib.hid (D2.out.next b3); obtain ⟨a0, x1, x2, y1, y2, r0, rf⟩ := S3.out.at_; clear b3; have q3 := q2; clear q2))
   | (have _t := q3; go_at_call 39; (try rw [← HW.out]); clear _t; go_loud (refine (least_lk s t A1 A2 d1 d2 xs ys _ S3.out.ux S3.out.uy KX.out KY.out hl kl).mono ?_; rintro e w4 ⟨rfl, b4⟩; rw [← HXV.out, ← HYV.out, ← HM.out]; have S4 := Lib.hid (S3.out.next b4); obtain ⟨a0, x1, x2, y1, y2, r0, rf⟩ := S4.out.at_; clear b4; have q4 := q3; clear q3)))
    go_wp2_with (first
   | (have _t := q4; go_at_call 42; (try rw [← HW.out]); clear _t; go_loud (refine (grow_at A c n m q G gl HG.out HGL.out _ S4.out.ns HLE.out hn9 HQ.out.1 hm9 HA.out).mono ?_; rintro e w5 ⟨A5, c5, rfl, n5, a5, ab5, hc5, hd5, b5⟩; have S5 := Lib.hid (S4.out.next b5); obtain ⟨a0, x1, x2, y1, y2, r0, rf⟩ := S5.out.at_; have N5 := Lib.hid n5; have HA5 := Lib.hid a5; have HB5 := Lib.hid ab5; clear b5 n5 a5 ab5; have q5 := q4; clear q4))
   | (have _t := q5; go_at_call 43; (try rw [← HW.out]); clear _t; go_loud (refine (inside_lk s t A1 A2 d1 d2 xs ys m _ S5.out.ux S5.out.uy hl kl (by omega)).mono ?_; rintro e w6 ⟨v, rfl, u6, k6, l6, e6, f6, b6⟩; rw [← HXV.out] at e6; rw [← HYV.out] at f6; have S6 := Lib.hid (S5.out.next b6); have N6 := Lib.hid (N5.out.below b6); have Z6 := Lib.hid b6.size; have U6 := Lib.hid u6; have K6 := Lib.hid k6; have L6 := Lib.hid l6; have E6 := Lib.hid e6; have F6 := Lib.hid f6; have v1 := u6.1.cap; have v2 := u6.2.1.cap; clear b6 u6 k6 l6 e6 f6; have q6 := q5; clear q5))
   | (have _t := q6; go_at_call 44; (try rw [← HW.out]); clear _t; go_loud (refine (clip_any A5 gl c5 _ ⟨hc5, hd5⟩).mono ?_; rintro e w7 ⟨rfl, h7⟩; subst h7; obtain ⟨a0, x1, x2, y1, y2, r0, rf⟩ := S6.out.at_; have q7 := q6; clear q6))
   | (have _t := q7; go_at_call 45; (try rw [← HW.out]); clear _t; go_loud (refine (put_at w7.heap.size v k gl m A5 q G X Y r HG.out HGL.out HRF.out HQ.out (by have := HLE.out; omega) (by have := HLQ.out; omega) hm9 hk HXR.out HYR.out K6.out L6.out E6.out F6.out HA5.out (fun a ea => by have h1 := HB5.out a ea; have h2 := Z6.out; omega) ⟨fun h0 a ea => by have := us_lt U6.out.1 h0 a ea; omega, fun h0 a ea => by have := us_lt U6.out.2.1 h0 a ea; omega⟩ _ (heap_alloc_new w7 _) (N6.out.below ((Below.refl _ w7).alloc (Nat.le_refl _) _)) (U6.out.below ((Below.refl _ w7).alloc (Nat.le_refl _) _))).mono ?_; rintro e w8 ⟨A4, c4, rfl, b8, n8, a8, k8⟩; have S8 := Lib.hid (S6.out.next (((Below.refl w7.heap.size w7).alloc (Nat.le_refl _) _).trans ((k8.to (B := w7.heap.size) (by simp) (fun i hi => by omega))))); obtain ⟨a0, x1, x2, y1, y2, r0, rf⟩ := S8.out.at_; obtain ⟨-, -, -, -, p4, -⟩ := b8.at_; have N8 := Lib.hid n8; have HA8 := Lib.hid a8; have hc8 := n8.cap; clear b8 n8 a8 k8; have q8 := q7; clear q7))
   | (have _t := q8; go_at_call 46; (try rw [← HW.out]); clear _t; go_loud (refine (pof_any A4 c4 r.1.length r.1 r.2 _ N8.out rfl (by have := HRN.out; omega) HA8.out).mono ?_; rintro e w9 ⟨A9, c9, rfl, n9, a9, b9⟩; rw [← HQ2.out] at n9 ⊢; rw [HER.out]; have S9 := Lib.hid (S8.out.next b9); obtain ⟨a0, x1, x2, y1, y2, r0, rf⟩ := S9.out.at_; have N9 := Lib.hid n9; have HA9 := Lib.hid a9; clear b9 n9 a9; have q9 := q8; clear q8)))
    have e1 := World.cell?_setCell_same _ _ (.slice A9 q2.length c9) r0
    refine bodyPost_ret (v := .tuple #[.agg #[.slice A9 q2.length c9], .int .i64 0]) (by simp [results, Try.results14, go_sem, e1]) rfl ?_
    rw [HRR.out]
    refine ⟨A9, c9, q2, 0, rfl, ns_boxed N9.out S9.out.br, HA9.out, S9.out.done _, by have := HQN.out; omega, ?_⟩
    unfold SetE
    rw [← HXV.out, ← HYV.out, if_neg (fun h => h.2 (HIN.out.1 (by omega)))]
    exact ⟨rfl, HSO.out⟩
  ·
   have tl : decide ((M : Int) + 1 > 1329) = true := decide_eq_true (by omega)
   have tl' : decide ((1329 : Int) < (M : Int) + 1) = true := tl
   go_enter Try.func14, Try.ntmps14
   go_wp2_with (first
   | (have _t := q0; go_at_call 39; (try rw [← HW.out]); clear _t; go_loud (refine (least_lk s t A1 A2 d1 d2 xs ys _ S0.out.ux S0.out.uy KX.out KY.out hl kl).mono ?_; rintro e w1 ⟨rfl, b1⟩; rw [← HXV.out, ← HYV.out, ← HM.out]; have S1 := Lib.hid (S0.out.next b1); obtain ⟨a0, x1, x2, y1, y2, r0, rf⟩ := S1.out.at_; clear b1; have q1 := q0; clear q0)))
   have e1 := World.cell?_setCell_same _ _ (.slice none 0 0) r0
   refine bodyPost_ret (v := .tuple #[.agg #[.slice none 0 0], .int .i64 4]) (by simp [results, Try.results14, go_sem, e1]) rfl ?_
   rw [HRR.out]
   refine ⟨none, 0, [], 4, rfl, ns_nil _, fun _ => rfl, S1.out.done _, by simp, ?_⟩
   unfold SetE
   rw [← HXV.out, ← HYV.out, if_pos ⟨by omega, fun h => hM2 (HIN.out.2 h)⟩]
   exact ⟨rfl, rfl⟩
end Go.Proofs.Ytlnmcilcifbcnaa

namespace Go.Proofs.Ytlnmcilcifbcnaa
open Go.RowKit Num Nds
def maxN (x : Nd) : Int := max (max (max x.a x.b) x.c) x.d
def mostF (l : List Nd) : Int := l.foldl (fun m x => if x.lv = 1 then max m (maxN x) else m) 0
theorem most_snoc (l : List Nd) (x : Nd) : mostF (l ++ [x]) = if x.lv = 1 then max (mostF l) (maxN x) else mostF l := by
 unfold mostF
 rw [List.foldl_append]
 rfl
theorem most_take {l : List Nd} {i : Nat} (hi : i < l.length) : mostF (l.take (i + 1)) = if (at_ l i).lv = 1 then max (mostF (l.take i)) (maxN (at_ l i)) else mostF (l.take i) := by
 rw [take_at hi, most_snoc]
set_option maxHeartbeats 1600000 in
theorem max4_any (g : Nat) (x : Nd) (w : World) (h : NdBox w g x) :
  Calls Try.prog 54 #[.slice (some ⟨g, 1, none⟩) 4 4] w fun e w' => e = .returned (.int .i64 (maxN x)) ∧ w' = w := by
 obtain ⟨c0, c1, c2, c3, c4⟩ := h.cells
 obtain ⟨m, hm⟩ : ∃ m, m = maxN x := ⟨_, rfl⟩
 rw [← hm]
 have HM := Lib.hid hm
 clear h hm
 go_enter Try.func54, Try.ntmps54
 go_wp2_with fail
 refine wp_loop_rounds 4 ?_
 rw [rounds_succ]
 go_wp2_with fail
 rw [rounds_succ]
 go_wp2_with fail
 rw [rounds_succ]
 go_wp2_with fail
 rw [rounds_succ]
 go_wp2_with fail
 go_ret
 refine ⟨?_, rfl⟩
 show Ending.returned (.int .i64 (max x.a (max x.b (max x.c x.d)))) = _
 rw [HM.out]
 exact ret_int (by unfold maxN; omega)
set_option maxHeartbeats 3200000 in
theorem most_lk (A : Option Addr) (c n : Nat) (q : List Nd) (w : World) (h : Ns w A c q) (hn : q.length = n) :
  Calls Try.prog 19 #[.agg #[.slice A n c]] w fun e w' => e = .returned (.int .u8 (mostF q % 256)) ∧ Below w.heap.size w w' := by
 have hcap := h.cap
 rw [hn] at hcap
 have hb := (Below.refl w.heap.size w).alloc (Nat.le_refl _) (.cells #[.slice A n c] 31)
 have HB := Lib.hid hb
 have HN := Lib.hid (h.below hb)
 have HL := Lib.hid hn
 clear h hb hn
 go_enter Try.func19, Try.ntmps19
 go_wp2_with fail
 go_loopw [9, 5, 3] (fun z1 z2 z3 wr => ∃ (i : Nat) (u : Value), i ≤ n ∧ z1 = .int .i64 i ∧ z2 = u ∧ z3 = .int .i64 (mostF (q.take i)) ∧ Below (w.alloc (.cells #[.slice A n c] 31)).heap.size (w.alloc (.cells #[.slice A n c] 31)) wr) (fun z1 _ _ _ => n - (intOf z1).toNat)
 case atStart => exact ⟨0, _, by omega, rfl, rfl, rfl, Below.refl _ _⟩
 case round =>
  obtain ⟨i, u, hi, rfl, rfl, rfl, hbw⟩ := hrel
  have HBW := Lib.hid hbw
  obtain ⟨M, hM⟩ : ∃ M, M = mostF (q.take i) := ⟨_, rfl⟩
  rw [← hM]
  have HM := Lib.hid hM
  by_cases hlt : i < n
  ·
   have hil : i < q.length := by rw [HL.out]; exact hlt
   have hmt := most_take hil
   obtain ⟨b, off, rfl, hbl, hcl⟩ := (HN.out.below hbw).at_ (by omega)
   obtain ⟨c1, c2, c3, c4, c5⟩ := hcl i hil
   obtain ⟨x, hx⟩ : ∃ x, x = at_ q i := ⟨_, rfl⟩
   rw [← hx] at c1 c2 c3 c4 c5 hmt
   rw [← hM] at hmt
   have HMT := Lib.hid hmt
   have i1 : (i : Int) < (n : Int) := by omega
   have hnb := NdBox.new wr x
   have HNB := Lib.hid hnb
   have HB2 := Lib.hid (hbw.alloc hbw.size (.cells #[.int .i64 x.lv, .int .i64 x.a, .int .i64 x.b, .int .i64 x.c, .int .i64 x.d] 66))
   clear hbw hM hil hmt hbl hcl hx hnb
   by_cases h1 : x.lv = 1
   ·
    have t1 : (x.lv == 1) = true := beq_iff_eq.2 h1
    have HO := Lib.hid h1
    clear h1
    go_wp2_with (go_at_call 54; go_loud (refine (max4_any _ x _ HNB.out).mono ?_; rintro e w2 ⟨rfl, rfl⟩))
    go_roundw
    case rel => exact ⟨i + 1, _, by omega, by go_num, rfl, by rw [HMT.out, if_pos HO.out], HB2.out⟩
    case measure => simp [intOf]; omega
   ·
    have t1 : (x.lv == 1) = false := beq_eq_false_iff_ne.2 h1
    go_wp2_with fail
    go_roundw
    case rel => exact ⟨i + 1, _, by omega, by go_num, rfl, by rw [HMT.out, if_neg h1], HB2.out⟩
    case measure => simp [intOf]; omega
  ·
   have e : i = n := by omega
   subst e
   have HMQ := Lib.hid (show M = mostF q by rw [hM, List.take_of_length_le (by rw [HL.out]; omega)])
   clear hbw hM
   go_wp2_with fail
   go_ret
   exact ⟨by rw [← HMQ.out]; rfl, HB.out.trans (HBW.out.mono HB.out.size)⟩
def maxK (M : Int) (x : Nd) : Nat → Int
 | 0 => M
 | k + 1 => max (maxK M x k) (x.kid k)
theorem maxK_four (M : Int) (x : Nd) : maxK M x 4 = max M (maxN x) := by
 show max (max (max (max M x.a) x.b) x.c) x.d = max M (max (max (max x.a x.b) x.c) x.d)
 omega
set_option maxHeartbeats 3200000 in
theorem rmost_lk (A : Option Addr) (c n : Nat) (q : List Nd) (w : World) (h : Ns w A c q) (hn : q.length = n) :
  Calls Try.prog 20 #[.agg #[.slice A n c]] w fun e w' => e = .returned (.int .u8 (mostF q % 256)) ∧ Below w.heap.size w w' := by
 have hcap := h.cap
 rw [hn] at hcap
 obtain ⟨W, hW⟩ : ∃ W : World, W = w.alloc (.cells #[.slice A n c] 31) := ⟨_, rfl⟩
 have hb : Below w.heap.size w W := by rw [hW]; exact (Below.refl w.heap.size w).alloc (Nat.le_refl _) _
 have HB := Lib.hid hb
 have HN := Lib.hid (h.below hb)
 have HL := Lib.hid hn
 have hbx : W.heap[w.heap.size]? = some (.cells #[.slice A n c] 31) := by rw [hW]; exact heap_alloc_new w _
 have a0 := one_cell hbx
 have HA0 := Lib.hid a0
 have HW := Lib.hid hW
 clear h hb hn hbx hW
 go_enter Try.func20, Try.ntmps20
 go_wp2_with fail
 rw [← HW.out]
 go_loopw [4, 5, 3] (fun z1 z2 z3 wr => ∃ (i : Nat) (u : Value), i ≤ n ∧ z1 = .int .i64 i ∧ z2 = u ∧ z3 = .int .i64 (mostF (q.take i)) ∧ W = wr) (fun z1 _ _ _ => n - (intOf z1).toNat)
 case atStart => exact ⟨0, _, by omega, rfl, rfl, rfl, rfl⟩
 case round =>
  obtain ⟨i, u, hi, rfl, rfl, rfl, rfl⟩ := hrel
  obtain ⟨M, hM⟩ : ∃ M, M = mostF (q.take i) := ⟨_, rfl⟩
  rw [← hM]
  by_cases hlt : i < n
  ·
   have hil : i < q.length := by rw [HL.out]; exact hlt
   have hmt := most_take hil
   obtain ⟨b, off, rfl, hbl, hcl⟩ := HN.out.at_ (by omega)
   have hci := hcl i hil
   obtain ⟨x, hx⟩ : ∃ x, x = at_ q i := ⟨_, rfl⟩
   rw [← hx] at hci hmt
   rw [← hM] at hmt
   have HMT := Lib.hid hmt
   have HCI := Lib.hid hci
   have c1 := hci.1
   have i1 : (i : Int) < (n : Int) := by omega
   have hco := HA0.out
   clear hM hil hmt hbl hcl hx hci
   by_cases h1 : x.lv = 1
   ·
    have t1 : (x.lv == 1) = true := beq_iff_eq.2 h1
    have HO := Lib.hid h1
    clear h1
    go_wp2_with fail
    go_loopw [5, 3] (fun z1 z2 wr => ∃ (j : Nat), j ≤ 4 ∧ z1 = .int .i64 j ∧ z2 = .int .i64 (maxK M x j) ∧ W = wr) (fun z1 _ _ => 4 - (intOf z1).toNat)
    case atStart => exact ⟨0, by omega, rfl, rfl, rfl⟩
    case round =>
     obtain ⟨j, hj, rfl, rfl, rfl⟩ := hrel
     by_cases hj4 : j < 4
     ·
      have hk := HCI.out.kid hj4
      have i2 : (j : Int) < 4 := by omega
      have i3 : (0 : Int) ≤ (j : Int) := by omega
      obtain ⟨K_, hK_⟩ : ∃ K_, K_ = maxK M x j := ⟨_, rfl⟩
      rw [← hK_]
      have HK_ := Lib.hid hK_
      have t2 : decide ((j : Int) < 4) = true := decide_eq_true i2
      clear hK_
      go_wp2_with fail
      go_roundw
      case rel => exact ⟨j + 1, by omega, by go_num, by rw [HK_.out]; rfl, trivial⟩
      case measure => simp [intOf]; omega
     ·
      have hj5 : j = 4 := by omega
      subst hj5
      go_wp2_with fail
      go_roundw
      case rel => exact ⟨i + 1, _, by omega, by go_num, rfl, by rw [HMT.out, if_pos HO.out, maxK_four], trivial⟩
      case measure => simp [intOf]; omega
   ·
    have t1 : (x.lv == 1) = false := beq_eq_false_iff_ne.2 h1
    go_wp2_with fail
    refine wp_loop_rounds 1 ?_
    rw [rounds_succ]
    go_wp2_with fail
    go_roundw
    case rel => exact ⟨i + 1, _, by omega, by go_num, rfl, by rw [HMT.out, if_neg h1], trivial⟩
    case measure => simp [intOf]; omega
  ·
   have e : i = n := by omega
   subst e
   have HMQ := Lib.hid (show M = mostF q by rw [hM, List.take_of_length_le (by rw [HL.out]; omega)])
   clear hM
   go_wp2_with fail
   go_ret
   exact ⟨by rw [← HMQ.out]; rfl, HB.out⟩
end Go.Proofs.Ytlnmcilcifbcnaa

namespace Go.Proofs.Ytlnmcilcifbcnaa
open Go.RowKit Nds Num
set_option maxHeartbeats 1600000 in
theorem rlevel_any (A : Option Addr) (c n : Nat) (l : List Nd) (w : World) (h : Ns w A c l) (hn : l.length = n) :
  Calls Try.prog 47 #[.agg #[.slice A n c]] w fun e w' => e = .returned (.int .i64 (levelZ l)) ∧ Below w.heap.size w w' := by
 have hcap := h.cap
 rw [hn] at hcap
 have HB := Lib.hid ((Below.refl w.heap.size w).alloc (Nat.le_refl _) (.cells #[.slice A n c] 31))
 by_cases h0 : n = 0
 ·
  have hr : levelZ l = 0 := by
   unfold levelZ
   rw [if_pos (List.eq_nil_of_length_eq_zero (hn.trans h0))]
  rw [hr]
  have t1 : ((n : Int) == 0) = true := by rw [h0]; rfl
  clear h0 hn hr h
  go_enter Try.func47, Try.ntmps47
  go_wp2_with fail
  go_ret
  exact ⟨rfl, HB.out⟩
 ·
  obtain ⟨b, off, rfl, hb, hc⟩ := h.at_ (by omega)
  obtain ⟨p, rfl⟩ : ∃ p, n = p + 1 := ⟨n - 1, by omega⟩
  have c1 := (hc p (by omega)).1
  have hr : levelZ l = (at_ l p).lv := by
   unfold levelZ
   rw [if_neg (fun e => by rw [e] at hn; cases hn), hn]
   rfl
  rw [hr]
  generalize (at_ l p).lv = u at *
  have t1 : (((p + 1 : Nat) : Int) == 0) = false := beq_eq_false_iff_ne.2 (by omega)
  have t2 : ((p : Int) + 1 == 0) = false := beq_eq_false_iff_ne.2 (by omega)
  have i1 : (p : Int) < (p : Int) + 1 := by omega
  clear h0 hn hr h hc
  go_enter Try.func47, Try.ntmps47
  go_wp2_with fail
  go_ret
  exact ⟨rfl, HB.out⟩
end Go.Proofs.Ytlnmcilcifbcnaa
