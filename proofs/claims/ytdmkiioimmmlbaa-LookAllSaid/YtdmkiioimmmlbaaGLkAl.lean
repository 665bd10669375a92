/-
  look: what the laws' walks need: boxes of quads and of numbers that stand; the calls on numbers as they are carried.
  look: the fixed fact.
-/
import Derived.Test.YtdmkiioimmmlbaaGClRm
import Derived.Test.YtdmkiioimmmlbaaGLkRq
import Derived.Test.YtdmkiioimmmlbaaGLkSp
import Derived.Test.YtdmkiioimmmlbaaGNcPB
import Derived.Test.YtdmkiioimmmlbaaGClK2
import Derived.Test.YtdmkiioimmmlbaaGClLs
import Derived.Test.YtdmkiioimmmlbaaGClPj
import Derived.Test.YtdmkiioimmmlbaaGNcRS
import Derived.Test.YtdmkiioimmmlbaaGNdsW
import Derived.Deep.RegionHeld3
import Derived.Test.YtdmkiioimmmlbaaGLkRw
import Derived.Test.YtdmkiioimmmlbaaGNcE
import Derived.Test.YtdmkiioimmmlbaaLay0

namespace Go.Proofs.Ytdmkiioimmmlbaa
set_option maxRecDepth 100000
set_option linter.unusedVariables false
set_option linter.unusedSimpArgs false
open Go.RowKit Num Nds
structure Ag (w W : World) (L : List (Option Addr × Nat × List Nd)) (M : List (Nat × Value)) (K : List (Nat × Bw × Int)) : Prop where
 al : Al w W L M
 kb : ∀ t ∈ K, t.2.1.B W t.1 t.2.2
theorem Ag.start (w : World) : Ag w w [] [] [] := ⟨Al.start w, by simp⟩
theorem Ag.step {w W W' : World} {L : List (Option Addr × Nat × List Nd)} {M : List (Nat × Value)} {K : List (Nat × Bw × Int)} (s : Ag w W L M K) (b : Below W.heap.size W W') : Ag w W' L M K :=
 ⟨s.al.step b, fun t ht => (s.kb t ht).next b⟩
theorem Ag.alloc {w W : World} {L : List (Option Addr × Nat × List Nd)} {M : List (Nat × Value)} {K : List (Nat × Bw × Int)} (s : Ag w W L M K) (o : Obj) : Ag w (W.alloc o) L M K := s.step ((Below.refl _ W).alloc (Nat.le_refl _) o)
theorem Ag.addN {w W : World} {L : List (Option Addr × Nat × List Nd)} {M : List (Nat × Value)} {K : List (Nat × Bw × Int)} (s : Ag w W L M K) {A : Option Addr} {c : Nat} {l : List Nd} (h : Ns W A c l) : Ag w W ((A, c, l) :: L) M K := ⟨s.al.addN h, s.kb⟩
theorem Ag.addB {w W : World} {L : List (Option Addr × Nat × List Nd)} {M : List (Nat × Value)} {K : List (Nat × Bw × Int)} (s : Ag w W L M K) (v : Value) : Ag w (W.alloc (.cells #[v] 31)) L ((W.heap.size, v) :: M) K := ⟨s.al.addB v, (s.alloc _).kb⟩
theorem Ag.addK {w W : World} {L : List (Option Addr × Nat × List Nd)} {M : List (Nat × Value)} {K : List (Nat × Bw × Int)} (s : Ag w W L M K) {u : Bw} {X : Int} (h : u.R W X) : Ag w (W.alloc (.cells #[.bool u.s, .slice u.a u.xs.length u.c] 25)) L M ((W.heap.size, u, X) :: K) :=
 ⟨(s.alloc _).al, fun t ht => by
  rcases List.mem_cons.1 ht with rfl | ht
  ·
   exact h.box
  ·
   exact (s.alloc _).kb t ht⟩
theorem Ag.getN {w W : World} {L : List (Option Addr × Nat × List Nd)} {M : List (Nat × Value)} {K : List (Nat × Bw × Int)} (s : Ag w W L M K) {A : Option Addr} {c : Nat} {l : List Nd} (h : (A, c, l) ∈ L) : Ns W A c l := s.al.getN h
theorem Ag.getB {w W : World} {L : List (Option Addr × Nat × List Nd)} {M : List (Nat × Value)} {K : List (Nat × Bw × Int)} (s : Ag w W L M K) {g : Nat} {v : Value} (h : (g, v) ∈ M) : W.cell? ⟨g, 0, none⟩ = some v := s.al.getB h
theorem Ag.getK {w W : World} {L : List (Option Addr × Nat × List Nd)} {M : List (Nat × Value)} {K : List (Nat × Bw × Int)} (s : Ag w W L M K) {g : Nat} {u : Bw} {X : Int} (h : (g, u, X) ∈ K) : u.B W g X := s.kb _ h
theorem Ag.b {w W : World} {L : List (Option Addr × Nat × List Nd)} {M : List (Nat × Value)} {K : List (Nat × Bw × Int)} (s : Ag w W L M K) : Below w.heap.size w W := s.al.sn.1
theorem qs_quadOf {L : List Cl} {q : List Nd} (h : QuadOf L q) : QS q :=
 ⟨quad_loose h.quad, quadOf_one (ofL_quadOf (quad_loose h.quad) (Nat.le_refl _) h.den) h fun _ _ => rfl⟩
theorem quadOf_qs {L : List Cl} {q : List Nd} (h : QS q) (hc : ∀ x y, cellM (den q q.length) x y = lk L x y) : QuadOf L q := by
 have h1 := ofL_quadOf h.1 (Nat.le_refl _) hc
 rwa [h.2] at h1
theorem set_bw (A : Option Addr) (c n : Nat) (q : List Nd) (u v : Bw) (X Y : Int) (k : Nat) (w : World) (h : Ns w A c q) (hn : q.length = n) (hn9 : n ≤ 800000) (hA : A = none → c = 0) (hq : QS q) (hu : u.R w X) (hv : v.R w Y) (lu : u.xs.length ≤ 50000) (lv : v.xs.length ≤ 50000) (hk : k ≤ 255) :
  Calls Try.prog 14 #[.agg #[.slice A n c], .agg #[.bool u.s, .slice u.a u.xs.length u.c], .agg #[.bool v.s, .slice v.a v.xs.length v.c], .int .u8 (k : Int)] w (RetLk q X Y (k : Int) w) := by
 have h1 := set_lk A u.a v.a c n u.c v.c u.s v.s q u.xs v.xs k w h hn hn9 hA hq hu.us hv.us hu.cn hv.cn lu lv hk
 rwa [hu.v, hv.v] at h1
theorem get_bw (A : Option Addr) (c n : Nat) (q : List Nd) (u v : Bw) (X Y : Int) (w : World) (h : Ns w A c q) (hn : q.length = n) (hq : looseB q = true) (hu : u.R w X) (hv : v.R w Y) (lu : u.xs.length ≤ 50000) (lv : v.xs.length ≤ 50000) :
  Calls Try.prog 16 #[.agg #[.slice A n c], .agg #[.bool u.s, .slice u.a u.xs.length u.c], .agg #[.bool v.s, .slice v.a v.xs.length v.c]] w fun e w' => e = .returned (.int .u8 (getQ q X Y)) ∧ Below w.heap.size w w' := by
 have h1 := get_lk A u.a v.a c n u.c v.c u.s v.s q u.xs v.xs w h hn hq hu.us hv.us hu.cn hv.cn lu lv
 rwa [hu.v, hv.v] at h1
theorem SetE.yes {q q' : List Nd} {X Y s er : Int} (h : SetE q X Y s er q') (hi : s ≠ 0 → inR X ∧ inR Y) : er = 0 ∧ SetOf q X Y s q' := by
 unfold SetE at h
 rwa [if_neg (fun e => e.2 (hi e.1))] at h
theorem SetE.no {q q' : List Nd} {X Y s er : Int} (h : SetE q X Y s er q') (h0 : s ≠ 0) (hi : ¬ (inR X ∧ inR Y)) : er = 4 ∧ q' = [] := by
 unfold SetE at h
 rwa [if_pos ⟨h0, hi⟩] at h
theorem SetOf.get {q q' : List Nd} {X Y s : Int} (h : SetOf q X Y s q') (x y : Int) : getQ q' x y = if x = X ∧ y = Y then s else getQ q x y := h.2 x y
end Go.Proofs.Ytdmkiioimmmlbaa

namespace Go.Proofs.Ytdmkiioimmmlbaa
set_option maxRecDepth 100000
set_option linter.unusedVariables false
set_option linter.unusedSimpArgs false
open Go.RowKit Num Nds
def q8 : List Nd := ofQ (setF 4 [] 5 (-7) 9).1 (setF 4 [] 5 (-7) 9).2
theorem q8_set : SetOf [] 5 (-7) 9 q8 :=
 (set_spec qs_nil (lv := 4) (by omega) (by omega) (fun h => absurd h (by simp)) (X := 5) (Y := -7) (s := 9) (by show (-8 : Int) ≤ 5 ∧ (5 : Int) < 8; omega) (by show (-8 : Int) ≤ -7 ∧ (-7 : Int) < 8; omega) (by omega)).2.1
theorem q8_len : q8.length = 4 := by kernel_rfl
theorem q8_most : mostF q8 % 256 = 9 := by kernel_rfl
theorem none8 (x y : Int) : getQ [] x y = 0 := rfl
theorem got8 (x y : Int) : getQ q8 x y = if x = 5 ∧ y = -7 then 9 else 0 := by rw [q8_set.get, none8]
theorem unset8 {p : List Nd} (h : SetOf q8 5 (-7) 0 p) : p = [] := by
 refine qs_one h.1 qs_nil fun x y => ?_
 have h1 := h.get x y
 rw [got8] at h1
 unfold getQ at h1
 rw [h1, show cellM (den [] ([] : List Nd).length) x y = 0 from rfl]
 split
 ·
  rfl
 ·
  rfl
theorem in8 {n : Int} (h : -8 ≤ n ∧ n < 8) : inR n := by
 have h1 := p2_mono (show 3 ≤ 1328 by omega)
 have h2 : p2 3 = 8 := rfl
 unfold inR
 omega
theorem far8 : ¬ (inR (p2 1328) ∧ inR (-7)) := fun h => absurd h.1.2 (Int.lt_irrefl _)
theorem near8 {n : Int} (h : -8 ≤ n ∧ n < 8) : -p2 1330 ≤ n ∧ n ≤ p2 1330 := by
 have h1 := p2_mono (show 3 ≤ 1330 by omega)
 have h2 : p2 3 = 8 := rfl
 omega
theorem pow8 : -p2 1330 ≤ p2 1328 ∧ p2 1328 ≤ p2 1330 := by
 have h1 := p2_mono (show 1328 ≤ 1330 by omega)
 have h2 := p2_pos 1328
 omega
theorem cell8 {w W : World} {g2 g3 g4 : Nat} {u v : Bw} {A3 A4 : Option Addr} {c3 c4 : Nat} {L : List (Option Addr × Nat × List Nd)} (s : Ag w W L [(g4, .slice A4 0 c4), (g3, .slice A3 4 c3)] [(g2 + 1, v, -7), (g2, u, 5)]) :
  W.cell? ⟨g3, 0, none⟩ = some (.slice A3 4 c3) ∧ W.cell? ⟨g2 + 1, 0, none⟩ = some (.bool v.s) ∧ W.cell? ⟨g2 + 1, 1, none⟩ = some (.slice v.a v.xs.length v.c) :=
 ⟨s.getB (by simp), (s.getK (g := g2 + 1) (u := v) (X := -7) (by simp)).c0, (s.getK (g := g2 + 1) (u := v) (X := -7) (by simp)).c1⟩
set_option maxRecDepth 100000 in
set_option maxHeartbeats 6400000 in
theorem alive8_any (w : World) : Calls Try.prog 10 #[] w fun e w' => e = .returned (.bool true) ∧ Below w.heap.size w w' := by
 have tk0 : True := trivial
 go_enter Try.func10, Try.ntmps10
 go_wp2_with (first
  | (have _t := tk0; go_at_call 32; clear _t; go_loud (refine (rbof_any 5 _ (by omega) (by omega)).mono ?_; rintro e w1 h1; obtain ⟨u, rfl, k1, b1⟩ := retI_bw h1; have lu := bw_len k1 (near8 (by omega)).1 (near8 (by omega)).2; have hcu := k1.us.cap; have U1 := Lib.hid k1; have G1 := Lib.hid ((Ag.start w).step b1); clear h1 k1 b1; have tk1 := tk0; clear tk0))
  | (have _t := tk1; go_at_call 32; clear _t; go_loud (refine (rbof_any (-7) _ (by omega) (by omega)).mono ?_; rintro e w2 h2; obtain ⟨v, rfl, k2, b2⟩ := retI_bw h2; have lv := bw_len k2 (near8 (by omega)).1 (near8 (by omega)).2; have hcv := k2.us.cap; have G2 := Lib.hid (G1.out.step b2); have ku := U1.out.next b2; have hbl := (Below.refl w2.heap.size w2).alloc (Nat.le_refl _) (.cells #[.bool u.s, .slice u.a u.xs.length u.c] 25); have g3 := (G2.out.addK ku).addK (k2.next hbl); rw [World.size_alloc] at g3; have G3 := Lib.hid g3; clear h2 k2 b2 ku hbl g3; have tk2 := tk1; clear tk1))
  | (have _t := tk2; go_at_call 14; clear _t; go_loud (refine (set_bw none 0 0 [] u v 5 (-7) 9 _ (ns_nil _) rfl (by omega) (fun _ => rfl) qs_nil (G3.out.getK (g := w2.heap.size) (u := u) (X := 5) (by simp)).r (G3.out.getK (g := w2.heap.size + 1) (u := v) (X := -7) (by simp)).r (by omega) (by omega) (by omega)).mono ?_; rintro e w3 ⟨A3, c3, q3, er, rfl, n3, a3, b3, l3, s3⟩; obtain ⟨rfl, s4⟩ := s3.yes (fun _ => ⟨in8 (by omega), in8 (by omega)⟩); have e3 := s4.one q8_set; subst e3; rw [q8_len]; have hc3 := n3.cap; rw [q8_len] at hc3; have HA3 := Lib.hid a3; have G4 := Lib.hid (((G3.out.step b3).addN n3).addB (.slice A3 4 c3)); have x0 := (G4.out.getK (g := w2.heap.size) (u := u) (X := 5) (by simp)).c0; have x1 := (G4.out.getK (g := w2.heap.size) (u := u) (X := 5) (by simp)).c1; have y0 := (G4.out.getK (g := w2.heap.size + 1) (u := v) (X := -7) (by simp)).c0; have y1 := (G4.out.getK (g := w2.heap.size + 1) (u := v) (X := -7) (by simp)).c1; clear n3 a3 b3 l3 s3 s4; have tk3 := tk2; clear tk2))
  | (have _t := tk3; go_at_call 14; clear _t; go_loud (refine (set_bw A3 c3 4 q8 u v 5 (-7) 0 _ (G4.out.getN (A := A3) (c := c3) (by simp)) q8_len (by omega) HA3.out q8_set.1 (G4.out.getK (g := w2.heap.size) (u := u) (X := 5) (by simp)).r (G4.out.getK (g := w2.heap.size + 1) (u := v) (X := -7) (by simp)).r (by omega) (by omega) (by omega)).mono ?_; rintro e w4 ⟨A4, c4, q4_, er, rfl, n4, a4, b4, l4, s4⟩; obtain ⟨rfl, s5⟩ := s4.yes (fun h => absurd rfl h); have e4 := unset8 s5; subst e4; have hc4 := n4.cap; have G5 := Lib.hid ((G4.out.step b4).addB (.slice A4 0 c4)); clear n4 a4 b4 l4 s4 s5; have tk4 := tk3; clear tk3)))
 obtain ⟨g3, hg3⟩ : ∃ g, g = w3.heap.size := ⟨_, rfl⟩
 obtain ⟨g2, hg2⟩ : ∃ g, g = w2.heap.size := ⟨_, rfl⟩
 obtain ⟨g4, hg4⟩ : ∃ g, g = w4.heap.size := ⟨_, rfl⟩
 obtain ⟨W0, hW0⟩ : ∃ W0 : World, W0 = (w4.alloc (.cells #[.slice A4 0 c4] 31)).drew := ⟨_, rfl⟩
 have G6 := Lib.hid (G5.out.step (Below.drew' (Below.refl _ (w4.alloc (.cells #[.slice A4 0 c4] 31)))))
 rw [← hg2, ← hg3, ← hg4, ← hW0] at G6
 refine wp_region_noPanic ?_
 refine wp_region_held (S := fun w' => w'.cell? ⟨g3, 0, none⟩ = some (.slice A3 4 c3) ∧ w'.cell? ⟨g2 + 1, 0, none⟩ = some (.bool v.s) ∧ w'.cell? ⟨g2 + 1, 1, none⟩ = some (.slice v.a v.xs.length v.c)) (by kernel_rfl) ?_
 change wpAnyH _ _ _ _ _ _ _ _ (w4.alloc (.cells #[.slice A4 0 c4] 31)).drew
 rw [← hW0, ← hg2, ← hg3, ← hg4]
 clear hW0 hg2 hg3 hg4 x0 x1 y0 y1 tk4 G1 G2 G3 G4 G5
 have B0 := Lib.hid (Below.refl W0.heap.size W0)
 have hS0 := (cell8 (G6.out.step B0.out))
 refine wpAnyH_take (i := 0) (v := ?_) rfl (by kernel_rfl) (by kernel_rfl) (by kernel_rfl) (fun _ _ _ h => h) (Or.inl ⟨by rfl, ?_⟩) hS0 ?_
 rotate_left
 ·
  rintro w' ⟨s1, s2, s3⟩
  go_simp
  first | done | with_reducible rfl | rfl
 simp only [Act.put, LA]
 refine wpAnyH_take (i := 2) (v := ?_) rfl (by kernel_rfl) (by kernel_rfl) (by kernel_rfl) (fun _ _ _ h => h) (Or.inl ⟨by rfl, ?_⟩) hS0 ?_
 rotate_left
 ·
  rintro w' ⟨s1, s2, s3⟩
  go_simp
  first | done | with_reducible rfl | rfl
 simp only [Act.put, LA]
 refine wpAnyH_ready (rs := [1, 7]) (by kernel_rfl) (by simp) (AllReadyH.cons rfl (fun K hK => ?_) (AllReadyH.cons rfl (fun K hK => ?_) AllReadyH.nil))
 ·
  go_simp
  refine (rbpow_any _ _).mono ?_
  rintro e W1 h9
  rw [show shlI 1 (1328 : Int) = p2 1328 from pow_p2 1328 (by omega)] at h9
  obtain ⟨p, rfl, kp, bp⟩ := retI_bw h9
  dsimp only
  have lp := bw_len kp pow8.1 pow8.2
  have hcp := kp.us.cap
  have B1 := Lib.hid (B0.out.trans (bp.mono B0.out.size))
  have P1 := Lib.hid kp
  refine hK.out _ _ (cell8 (G6.out.step B1.out)) (fun _ => ?_)
  clear hK K h9 kp bp
  refine wpAnyH_ready (rs := [3, 7]) (by kernel_rfl) (by simp) (AllReadyH.cons rfl (fun K hK => ?_) (AllReadyH.cons rfl (fun K hK => ?_) AllReadyH.nil))
  ·
   go_simp
   refine (set_bw A3 c3 4 q8 p v (p2 1328) (-7) 1 _ ((G6.out.step B1.out).getN (A := A3) (c := c3) (by simp)) q8_len (by omega) HA3.out q8_set.1 P1.out ((G6.out.step B1.out).getK (g := g2 + 1) (u := v) (X := -7) (by simp)).r (by omega) (by omega) (by omega)).mono ?_
   rintro e W2 ⟨A5, c5, q5_, er, rfl, n5, a5, b5, l5, s5⟩
   obtain ⟨rfl, rfl⟩ := s5.no (by omega) far8
   dsimp only
   have B2 := Lib.hid (B1.out.trans (b5.mono B1.out.size))
   refine hK.out _ _ (cell8 (G6.out.step B2.out)) (fun hS2 => ?_)
   clear hK K n5 a5 b5 l5 s5
   refine wpAnyH_take (i := 4) (v := ?_) rfl (by kernel_rfl) (by kernel_rfl) (by kernel_rfl) (fun _ _ _ h => h) (Or.inl ⟨by rfl, ?_⟩) hS2 ?_
   rotate_left
   ·
    rintro w' ⟨s1, s2, s3⟩
    go_simp
    first | done | with_reducible rfl | rfl
   simp only [Act.put, LA]
   refine wpAnyH_take (i := 5) (v := ?_) rfl (by kernel_rfl) (by kernel_rfl) (by kernel_rfl) (fun _ _ _ h => h) (Or.inl ⟨by rfl, ?_⟩) hS2 ?_
   rotate_left
   ·
    rintro w' ⟨s1, s2, s3⟩
    go_simp
    first | done | with_reducible rfl | rfl
   simp only [Act.put, LA]
   refine wpAnyH_take (i := 6) (v := ?_) rfl (by kernel_rfl) (by kernel_rfl) (by kernel_rfl) (fun _ _ _ h => h) (Or.inl ⟨by rfl, ?_⟩) hS2 ?_
   rotate_left
   ·
    rintro w' ⟨s1, s2, s3⟩
    go_simp
    first | done | with_reducible rfl | rfl
   simp only [Act.put, LA]
   refine wpAnyH_ready (rs := [7]) (by kernel_rfl) (by simp) (AllReadyH.cons rfl (fun K hK => ?_) AllReadyH.nil)
   go_simp
   obtain ⟨g7, hg⟩ : ∃ g, g = W2.heap.size := ⟨_, rfl⟩
   obtain ⟨W3, hW⟩ : ∃ Z : World, Z = W2.alloc (.cells #[.slice none 0 0] 31) := ⟨_, rfl⟩
   have hbl := (Below.refl W2.heap.size W2).alloc (Nat.le_refl _) (.cells #[.slice none 0 0] 31)
   rw [← hW] at hbl
   have R3 := Lib.hid (show W3.heap[g7]? = some (.cells #[.slice none 0 0] 31) by rw [hW, hg]; exact heap_alloc_new W2 _)
   have GA := Lib.hid (show W0.heap.size ≤ g7 by rw [hg]; exact B2.out.size)
   have B3 := Lib.hid (B2.out.trans (hbl.mono B2.out.size))
   rw [← hg, ← hW]
   refine hK.out _ _ (cell8 (G6.out.step B3.out)) (fun _ => ?_)
   clear hK K hg hW hbl
   refine wpAnyH_ready (rs := [8]) (by kernel_rfl) (by simp) (AllReadyH.cons rfl (fun K hK => ?_) AllReadyH.nil)
   have z0 := one_cell R3.out
   have z1 := one_free R3.out
   go_simp
   have BF := Lib.hid (B3.out.setCell (p := ⟨g7, 0, none⟩) GA.out (.slice A5 0 c5))
   have hS9 := cell8 (G6.out.step BF.out)
   refine hK.out _ _ hS9 (fun _ => ?_)
   clear hK K z0 z1
   refine wpAnyH_take (i := 9) (v := ?_) rfl (by kernel_rfl) (by kernel_rfl) (by kernel_rfl) (fun _ _ _ h => h) (Or.inl ⟨by rfl, ?_⟩) hS9 ?_
   rotate_left
   ·
    rintro w' ⟨s1, s2, s3⟩
    go_simp
    first | done | with_reducible rfl | rfl
   simp only [Act.put, LA]
   refine wpAnyH_done (by kernel_rfl) ?_ _
   refine NoPanic.normal ?_
   obtain ⟨V, hV⟩ : ∃ V : World, V = W3.setCell ⟨g7, 0, none⟩ (.slice A5 0 c5) := ⟨_, rfl⟩
   have G7 := Lib.hid (G6.out.step BF.out)
   rw [← hV] at G7 ⊢
   clear hV hS9
   have f0 := (G7.out.getB (g := g3) (v := .slice A3 4 c3) (by simp))
   have f1 := (G7.out.getB (g := g4) (v := .slice A4 0 c4) (by simp))
   have x0 := (G7.out.getK (g := g2) (u := u) (X := 5) (by simp)).c0
   have x1 := (G7.out.getK (g := g2) (u := u) (X := 5) (by simp)).c1
   have y0 := (G7.out.getK (g := g2 + 1) (u := v) (X := -7) (by simp)).c0
   have y1 := (G7.out.getK (g := g2 + 1) (u := v) (X := -7) (by simp)).c1
   have tk7 : True := trivial
   go_wp2_with (first
    | (have _t := tk7; go_at_call 16; clear _t; go_loud (refine (get_bw A3 c3 4 q8 u v 5 (-7) _ (G7.out.getN (A := A3) (c := c3) (by simp)) q8_len q8_set.1.1 (G7.out.getK (g := g2) (u := u) (X := 5) (by simp)).r (G7.out.getK (g := g2 + 1) (u := v) (X := -7) (by simp)).r (by omega) (by omega)).mono ?_; rintro e w7 ⟨rfl, b⟩; rw [show getQ q8 5 (-7) = 9 by rw [got8]; rfl]; have G8 := Lib.hid (G7.out.step b); have f0 := (G8.out.getB (g := g3) (v := .slice A3 4 c3) (by simp)); have f1 := (G8.out.getB (g := g4) (v := .slice A4 0 c4) (by simp)); have x0 := (G8.out.getK (g := g2) (u := u) (X := 5) (by simp)).c0; have x1 := (G8.out.getK (g := g2) (u := u) (X := 5) (by simp)).c1; have y0 := (G8.out.getK (g := g2 + 1) (u := v) (X := -7) (by simp)).c0; have y1 := (G8.out.getK (g := g2 + 1) (u := v) (X := -7) (by simp)).c1; clear b; have tk8 := tk7; clear tk7))
    | (have _t := tk8; go_at_call 16; clear _t; go_loud (refine (get_bw A3 c3 4 q8 v u (-7) 5 _ (G8.out.getN (A := A3) (c := c3) (by simp)) q8_len q8_set.1.1 (G8.out.getK (g := g2 + 1) (u := v) (X := -7) (by simp)).r (G8.out.getK (g := g2) (u := u) (X := 5) (by simp)).r (by omega) (by omega)).mono ?_; rintro e w8 ⟨rfl, b⟩; rw [show getQ q8 (-7) 5 = 0 by rw [got8]; rfl]; have G9 := Lib.hid (G8.out.step b); have f0 := (G9.out.getB (g := g3) (v := .slice A3 4 c3) (by simp)); have f1 := (G9.out.getB (g := g4) (v := .slice A4 0 c4) (by simp)); have x0 := (G9.out.getK (g := g2) (u := u) (X := 5) (by simp)).c0; have x1 := (G9.out.getK (g := g2) (u := u) (X := 5) (by simp)).c1; have y0 := (G9.out.getK (g := g2 + 1) (u := v) (X := -7) (by simp)).c0; have y1 := (G9.out.getK (g := g2 + 1) (u := v) (X := -7) (by simp)).c1; clear b; have tk9 := tk8; clear tk8))
    | (have _t := tk9; go_at_call 19; clear _t; go_loud (refine (most_lk A3 c3 4 q8 _ (G9.out.getN (A := A3) (c := c3) (by simp)) q8_len).mono ?_; rintro e w9 ⟨rfl, b⟩; rw [q8_most]; have G10 := Lib.hid (G9.out.step b); have f0 := (G10.out.getB (g := g3) (v := .slice A3 4 c3) (by simp)); have f1 := (G10.out.getB (g := g4) (v := .slice A4 0 c4) (by simp)); have x0 := (G10.out.getK (g := g2) (u := u) (X := 5) (by simp)).c0; have x1 := (G10.out.getK (g := g2) (u := u) (X := 5) (by simp)).c1; have y0 := (G10.out.getK (g := g2 + 1) (u := v) (X := -7) (by simp)).c0; have y1 := (G10.out.getK (g := g2 + 1) (u := v) (X := -7) (by simp)).c1; clear b; have tk10 := tk9; clear tk9))
    | (have _t := tk10; go_at_call 16; clear _t; go_loud (refine (get_bw none 0 0 [] u v 5 (-7) _ (ns_nil _) rfl rfl (G10.out.getK (g := g2) (u := u) (X := 5) (by simp)).r (G10.out.getK (g := g2 + 1) (u := v) (X := -7) (by simp)).r (by omega) (by omega)).mono ?_; rintro e w10 ⟨rfl, b⟩; rw [none8]; have G11 := Lib.hid (G10.out.step b); have f0 := (G11.out.getB (g := g3) (v := .slice A3 4 c3) (by simp)); have f1 := (G11.out.getB (g := g4) (v := .slice A4 0 c4) (by simp)); have x0 := (G11.out.getK (g := g2) (u := u) (X := 5) (by simp)).c0; have x1 := (G11.out.getK (g := g2) (u := u) (X := 5) (by simp)).c1; have y0 := (G11.out.getK (g := g2 + 1) (u := v) (X := -7) (by simp)).c0; have y1 := (G11.out.getK (g := g2 + 1) (u := v) (X := -7) (by simp)).c1; clear b; have tk11 := tk10; clear tk10))
    | (have _t := tk11; go_at_call 24; clear _t; go_loud (refine (nrright_any A3 c3 4 q8 _ (G11.out.getN (A := A3) (c := c3) (by simp)) q8_len (by omega)).mono ?_; rintro e w11 ⟨rfl, b⟩; rw [q8_set.1.quad]; have G12 := Lib.hid (G11.out.step b); have f0 := (G12.out.getB (g := g3) (v := .slice A3 4 c3) (by simp)); have f1 := (G12.out.getB (g := g4) (v := .slice A4 0 c4) (by simp)); have x0 := (G12.out.getK (g := g2) (u := u) (X := 5) (by simp)).c0; have x1 := (G12.out.getK (g := g2) (u := u) (X := 5) (by simp)).c1; have y0 := (G12.out.getK (g := g2 + 1) (u := v) (X := -7) (by simp)).c0; have y1 := (G12.out.getK (g := g2 + 1) (u := v) (X := -7) (by simp)).c1; clear b; have tk12 := tk11; clear tk11)))
   go_ret
   exact ⟨rfl, G12.out.b⟩
  ·
   go_simp
   obtain ⟨g7, hg⟩ : ∃ g, g = W1.heap.size := ⟨_, rfl⟩
   obtain ⟨W2, hW⟩ : ∃ Z : World, Z = W1.alloc (.cells #[.slice none 0 0] 31) := ⟨_, rfl⟩
   have hbl := (Below.refl W1.heap.size W1).alloc (Nat.le_refl _) (.cells #[.slice none 0 0] 31)
   rw [← hW] at hbl
   have R2 := Lib.hid (show W2.heap[g7]? = some (.cells #[.slice none 0 0] 31) by rw [hW, hg]; exact heap_alloc_new W1 _)
   have GA := Lib.hid (show W0.heap.size ≤ g7 by rw [hg]; exact B1.out.size)
   have B2 := Lib.hid (B1.out.trans (hbl.mono B1.out.size))
   have P2 := Lib.hid (P1.out.next hbl)
   rw [← hg, ← hW]
   refine hK.out _ _ (cell8 (G6.out.step B2.out)) (fun _ => ?_)
   clear hK K hg hW hbl
   refine wpAnyH_ready (rs := [3]) (by kernel_rfl) (by simp) (AllReadyH.cons rfl (fun K hK => ?_) AllReadyH.nil)
   go_simp
   refine (set_bw A3 c3 4 q8 p v (p2 1328) (-7) 1 _ ((G6.out.step B2.out).getN (A := A3) (c := c3) (by simp)) q8_len (by omega) HA3.out q8_set.1 P2.out ((G6.out.step B2.out).getK (g := g2 + 1) (u := v) (X := -7) (by simp)).r (by omega) (by omega) (by omega)).mono ?_
   rintro e W3 ⟨A5, c5, q5_, er, rfl, n5, a5, b5, l5, s5⟩
   obtain ⟨rfl, rfl⟩ := s5.no (by omega) far8
   dsimp only
   have B3 := Lib.hid (B2.out.trans (b5.mono B2.out.size))
   have R3 := Lib.hid ((b5.block g7 (heapLt R2.out)).trans R2.out)
   refine hK.out _ _ (cell8 (G6.out.step B3.out)) (fun hS3 => ?_)
   clear hK K n5 a5 b5 l5 s5
   refine wpAnyH_take (i := 4) (v := ?_) rfl (by kernel_rfl) (by kernel_rfl) (by kernel_rfl) (fun _ _ _ h => h) (Or.inl ⟨by rfl, ?_⟩) hS3 ?_
   rotate_left
   ·
    rintro w' ⟨s1, s2, s3⟩
    go_simp
    first | done | with_reducible rfl | rfl
   simp only [Act.put, LA]
   refine wpAnyH_take (i := 5) (v := ?_) rfl (by kernel_rfl) (by kernel_rfl) (by kernel_rfl) (fun _ _ _ h => h) (Or.inl ⟨by rfl, ?_⟩) hS3 ?_
   rotate_left
   ·
    rintro w' ⟨s1, s2, s3⟩
    go_simp
    first | done | with_reducible rfl | rfl
   simp only [Act.put, LA]
   refine wpAnyH_take (i := 6) (v := ?_) rfl (by kernel_rfl) (by kernel_rfl) (by kernel_rfl) (fun _ _ _ h => h) (Or.inl ⟨by rfl, ?_⟩) hS3 ?_
   rotate_left
   ·
    rintro w' ⟨s1, s2, s3⟩
    go_simp
    first | done | with_reducible rfl | rfl
   simp only [Act.put, LA]
   refine wpAnyH_ready (rs := [8]) (by kernel_rfl) (by simp) (AllReadyH.cons rfl (fun K hK => ?_) AllReadyH.nil)
   have z0 := one_cell R3.out
   have z1 := one_free R3.out
   go_simp
   have BF := Lib.hid (B3.out.setCell (p := ⟨g7, 0, none⟩) GA.out (.slice A5 0 c5))
   have hS9 := cell8 (G6.out.step BF.out)
   refine hK.out _ _ hS9 (fun _ => ?_)
   clear hK K z0 z1
   refine wpAnyH_take (i := 9) (v := ?_) rfl (by kernel_rfl) (by kernel_rfl) (by kernel_rfl) (fun _ _ _ h => h) (Or.inl ⟨by rfl, ?_⟩) hS9 ?_
   rotate_left
   ·
    rintro w' ⟨s1, s2, s3⟩
    go_simp
    first | done | with_reducible rfl | rfl
   simp only [Act.put, LA]
   refine wpAnyH_done (by kernel_rfl) ?_ _
   refine NoPanic.normal ?_
   obtain ⟨V, hV⟩ : ∃ V : World, V = W3.setCell ⟨g7, 0, none⟩ (.slice A5 0 c5) := ⟨_, rfl⟩
   have G7 := Lib.hid (G6.out.step BF.out)
   rw [← hV] at G7 ⊢
   clear hV hS9
   have f0 := (G7.out.getB (g := g3) (v := .slice A3 4 c3) (by simp))
   have f1 := (G7.out.getB (g := g4) (v := .slice A4 0 c4) (by simp))
   have x0 := (G7.out.getK (g := g2) (u := u) (X := 5) (by simp)).c0
   have x1 := (G7.out.getK (g := g2) (u := u) (X := 5) (by simp)).c1
   have y0 := (G7.out.getK (g := g2 + 1) (u := v) (X := -7) (by simp)).c0
   have y1 := (G7.out.getK (g := g2 + 1) (u := v) (X := -7) (by simp)).c1
   have tk7 : True := trivial
   go_wp2_with (first
    | (have _t := tk7; go_at_call 16; clear _t; go_loud (refine (get_bw A3 c3 4 q8 u v 5 (-7) _ (G7.out.getN (A := A3) (c := c3) (by simp)) q8_len q8_set.1.1 (G7.out.getK (g := g2) (u := u) (X := 5) (by simp)).r (G7.out.getK (g := g2 + 1) (u := v) (X := -7) (by simp)).r (by omega) (by omega)).mono ?_; rintro e w7 ⟨rfl, b⟩; rw [show getQ q8 5 (-7) = 9 by rw [got8]; rfl]; have G8 := Lib.hid (G7.out.step b); have f0 := (G8.out.getB (g := g3) (v := .slice A3 4 c3) (by simp)); have f1 := (G8.out.getB (g := g4) (v := .slice A4 0 c4) (by simp)); have x0 := (G8.out.getK (g := g2) (u := u) (X := 5) (by simp)).c0; have x1 := (G8.out.getK (g := g2) (u := u) (X := 5) (by simp)).c1; have y0 := (G8.out.getK (g := g2 + 1) (u := v) (X := -7) (by simp)).c0; have y1 := (G8.out.getK (g := g2 + 1) (u := v) (X := -7) (by simp)).c1; clear b; have tk8 := tk7; clear tk7))
    | (have _t := tk8; go_at_call 16; clear _t; go_loud (refine (get_bw A3 c3 4 q8 v u (-7) 5 _ (G8.out.getN (A := A3) (c := c3) (by simp)) q8_len q8_set.1.1 (G8.out.getK (g := g2 + 1) (u := v) (X := -7) (by simp)).r (G8.out.getK (g := g2) (u := u) (X := 5) (by simp)).r (by omega) (by omega)).mono ?_; rintro e w8 ⟨rfl, b⟩; rw [show getQ q8 (-7) 5 = 0 by rw [got8]; rfl]; have G9 := Lib.hid (G8.out.step b); have f0 := (G9.out.getB (g := g3) (v := .slice A3 4 c3) (by simp)); have f1 := (G9.out.getB (g := g4) (v := .slice A4 0 c4) (by simp)); have x0 := (G9.out.getK (g := g2) (u := u) (X := 5) (by simp)).c0; have x1 := (G9.out.getK (g := g2) (u := u) (X := 5) (by simp)).c1; have y0 := (G9.out.getK (g := g2 + 1) (u := v) (X := -7) (by simp)).c0; have y1 := (G9.out.getK (g := g2 + 1) (u := v) (X := -7) (by simp)).c1; clear b; have tk9 := tk8; clear tk8))
    | (have _t := tk9; go_at_call 19; clear _t; go_loud (refine (most_lk A3 c3 4 q8 _ (G9.out.getN (A := A3) (c := c3) (by simp)) q8_len).mono ?_; rintro e w9 ⟨rfl, b⟩; rw [q8_most]; have G10 := Lib.hid (G9.out.step b); have f0 := (G10.out.getB (g := g3) (v := .slice A3 4 c3) (by simp)); have f1 := (G10.out.getB (g := g4) (v := .slice A4 0 c4) (by simp)); have x0 := (G10.out.getK (g := g2) (u := u) (X := 5) (by simp)).c0; have x1 := (G10.out.getK (g := g2) (u := u) (X := 5) (by simp)).c1; have y0 := (G10.out.getK (g := g2 + 1) (u := v) (X := -7) (by simp)).c0; have y1 := (G10.out.getK (g := g2 + 1) (u := v) (X := -7) (by simp)).c1; clear b; have tk10 := tk9; clear tk9))
    | (have _t := tk10; go_at_call 16; clear _t; go_loud (refine (get_bw none 0 0 [] u v 5 (-7) _ (ns_nil _) rfl rfl (G10.out.getK (g := g2) (u := u) (X := 5) (by simp)).r (G10.out.getK (g := g2 + 1) (u := v) (X := -7) (by simp)).r (by omega) (by omega)).mono ?_; rintro e w10 ⟨rfl, b⟩; rw [none8]; have G11 := Lib.hid (G10.out.step b); have f0 := (G11.out.getB (g := g3) (v := .slice A3 4 c3) (by simp)); have f1 := (G11.out.getB (g := g4) (v := .slice A4 0 c4) (by simp)); have x0 := (G11.out.getK (g := g2) (u := u) (X := 5) (by simp)).c0; have x1 := (G11.out.getK (g := g2) (u := u) (X := 5) (by simp)).c1; have y0 := (G11.out.getK (g := g2 + 1) (u := v) (X := -7) (by simp)).c0; have y1 := (G11.out.getK (g := g2 + 1) (u := v) (X := -7) (by simp)).c1; clear b; have tk11 := tk10; clear tk10))
    | (have _t := tk11; go_at_call 24; clear _t; go_loud (refine (nrright_any A3 c3 4 q8 _ (G11.out.getN (A := A3) (c := c3) (by simp)) q8_len (by omega)).mono ?_; rintro e w11 ⟨rfl, b⟩; rw [q8_set.1.quad]; have G12 := Lib.hid (G11.out.step b); have f0 := (G12.out.getB (g := g3) (v := .slice A3 4 c3) (by simp)); have f1 := (G12.out.getB (g := g4) (v := .slice A4 0 c4) (by simp)); have x0 := (G12.out.getK (g := g2) (u := u) (X := 5) (by simp)).c0; have x1 := (G12.out.getK (g := g2) (u := u) (X := 5) (by simp)).c1; have y0 := (G12.out.getK (g := g2 + 1) (u := v) (X := -7) (by simp)).c0; have y1 := (G12.out.getK (g := g2 + 1) (u := v) (X := -7) (by simp)).c1; clear b; have tk12 := tk11; clear tk11)))
   go_ret
   exact ⟨rfl, G12.out.b⟩
 ·
  go_simp
  obtain ⟨g7, hg⟩ : ∃ g, g = W0.heap.size := ⟨_, rfl⟩
  obtain ⟨W1, hW⟩ : ∃ Z : World, Z = W0.alloc (.cells #[.slice none 0 0] 31) := ⟨_, rfl⟩
  have hbl := (Below.refl W0.heap.size W0).alloc (Nat.le_refl _) (.cells #[.slice none 0 0] 31)
  rw [← hW] at hbl
  have R1 := Lib.hid (show W1.heap[g7]? = some (.cells #[.slice none 0 0] 31) by rw [hW, hg]; exact heap_alloc_new W0 _)
  have GA := Lib.hid (show W0.heap.size ≤ g7 by rw [hg]; exact B0.out.size)
  have B1 := Lib.hid (B0.out.trans (hbl.mono B0.out.size))
  rw [← hg, ← hW]
  refine hK.out _ _ (cell8 (G6.out.step B1.out)) (fun _ => ?_)
  clear hK K hg hW hbl
  refine wpAnyH_ready (rs := [1]) (by kernel_rfl) (by simp) (AllReadyH.cons rfl (fun K hK => ?_) AllReadyH.nil)
  go_simp
  refine (rbpow_any _ _).mono ?_
  rintro e W2 h9
  rw [show shlI 1 (1328 : Int) = p2 1328 from pow_p2 1328 (by omega)] at h9
  obtain ⟨p, rfl, kp, bp⟩ := retI_bw h9
  dsimp only
  have lp := bw_len kp pow8.1 pow8.2
  have hcp := kp.us.cap
  have B2 := Lib.hid (B1.out.trans (bp.mono B1.out.size))
  have P2 := Lib.hid kp
  have R2 := Lib.hid ((bp.block g7 (heapLt R1.out)).trans R1.out)
  refine hK.out _ _ (cell8 (G6.out.step B2.out)) (fun _ => ?_)
  clear hK K h9 kp bp
  refine wpAnyH_ready (rs := [3]) (by kernel_rfl) (by simp) (AllReadyH.cons rfl (fun K hK => ?_) AllReadyH.nil)
  go_simp
  refine (set_bw A3 c3 4 q8 p v (p2 1328) (-7) 1 _ ((G6.out.step B2.out).getN (A := A3) (c := c3) (by simp)) q8_len (by omega) HA3.out q8_set.1 P2.out ((G6.out.step B2.out).getK (g := g2 + 1) (u := v) (X := -7) (by simp)).r (by omega) (by omega) (by omega)).mono ?_
  rintro e W3 ⟨A5, c5, q5_, er, rfl, n5, a5, b5, l5, s5⟩
  obtain ⟨rfl, rfl⟩ := s5.no (by omega) far8
  dsimp only
  have B3 := Lib.hid (B2.out.trans (b5.mono B2.out.size))
  have R3 := Lib.hid ((b5.block g7 (heapLt R2.out)).trans R2.out)
  refine hK.out _ _ (cell8 (G6.out.step B3.out)) (fun hS3 => ?_)
  clear hK K n5 a5 b5 l5 s5
  refine wpAnyH_take (i := 4) (v := ?_) rfl (by kernel_rfl) (by kernel_rfl) (by kernel_rfl) (fun _ _ _ h => h) (Or.inl ⟨by rfl, ?_⟩) hS3 ?_
  rotate_left
  ·
   rintro w' ⟨s1, s2, s3⟩
   go_simp
   first | done | with_reducible rfl | rfl
  simp only [Act.put, LA]
  refine wpAnyH_take (i := 5) (v := ?_) rfl (by kernel_rfl) (by kernel_rfl) (by kernel_rfl) (fun _ _ _ h => h) (Or.inl ⟨by rfl, ?_⟩) hS3 ?_
  rotate_left
  ·
   rintro w' ⟨s1, s2, s3⟩
   go_simp
   first | done | with_reducible rfl | rfl
  simp only [Act.put, LA]
  refine wpAnyH_take (i := 6) (v := ?_) rfl (by kernel_rfl) (by kernel_rfl) (by kernel_rfl) (fun _ _ _ h => h) (Or.inl ⟨by rfl, ?_⟩) hS3 ?_
  rotate_left
  ·
   rintro w' ⟨s1, s2, s3⟩
   go_simp
   first | done | with_reducible rfl | rfl
  simp only [Act.put, LA]
  refine wpAnyH_ready (rs := [8]) (by kernel_rfl) (by simp) (AllReadyH.cons rfl (fun K hK => ?_) AllReadyH.nil)
  have z0 := one_cell R3.out
  have z1 := one_free R3.out
  go_simp
  have BF := Lib.hid (B3.out.setCell (p := ⟨g7, 0, none⟩) GA.out (.slice A5 0 c5))
  have hS9 := cell8 (G6.out.step BF.out)
  refine hK.out _ _ hS9 (fun _ => ?_)
  clear hK K z0 z1
  refine wpAnyH_take (i := 9) (v := ?_) rfl (by kernel_rfl) (by kernel_rfl) (by kernel_rfl) (fun _ _ _ h => h) (Or.inl ⟨by rfl, ?_⟩) hS9 ?_
  rotate_left
  ·
   rintro w' ⟨s1, s2, s3⟩
   go_simp
   first | done | with_reducible rfl | rfl
  simp only [Act.put, LA]
  refine wpAnyH_done (by kernel_rfl) ?_ _
  refine NoPanic.normal ?_
  obtain ⟨V, hV⟩ : ∃ V : World, V = W3.setCell ⟨g7, 0, none⟩ (.slice A5 0 c5) := ⟨_, rfl⟩
  have G7 := Lib.hid (G6.out.step BF.out)
  rw [← hV] at G7 ⊢
  clear hV hS9
  have f0 := (G7.out.getB (g := g3) (v := .slice A3 4 c3) (by simp))
  have f1 := (G7.out.getB (g := g4) (v := .slice A4 0 c4) (by simp))
  have x0 := (G7.out.getK (g := g2) (u := u) (X := 5) (by simp)).c0
  have x1 := (G7.out.getK (g := g2) (u := u) (X := 5) (by simp)).c1
  have y0 := (G7.out.getK (g := g2 + 1) (u := v) (X := -7) (by simp)).c0
  have y1 := (G7.out.getK (g := g2 + 1) (u := v) (X := -7) (by simp)).c1
  have tk7 : True := trivial
  go_wp2_with (first
   | (have _t := tk7; go_at_call 16; clear _t; go_loud (refine (get_bw A3 c3 4 q8 u v 5 (-7) _ (G7.out.getN (A := A3) (c := c3) (by simp)) q8_len q8_set.1.1 (G7.out.getK (g := g2) (u := u) (X := 5) (by simp)).r (G7.out.getK (g := g2 + 1) (u := v) (X := -7) (by simp)).r (by omega) (by omega)).mono ?_; rintro e w7 ⟨rfl, b⟩; rw [show getQ q8 5 (-7) = 9 by rw [got8]; rfl]; have G8 := Lib.hid (G7.out.step b); have f0 := (G8.out.getB (g := g3) (v := .slice A3 4 c3) (by simp)); have f1 := (G8.out.getB (g := g4) (v := .slice A4 0 c4) (by simp)); have x0 := (G8.out.getK (g := g2) (u := u) (X := 5) (by simp)).c0; have x1 := (G8.out.getK (g := g2) (u := u) (X := 5) (by simp)).c1; have y0 := (G8.out.getK (g := g2 + 1) (u := v) (X := -7) (by simp)).c0; have y1 := (G8.out.getK (g := g2 + 1) (u := v) (X := -7) (by simp)).c1; clear b; have tk8 := tk7; clear tk7))
   | (have _t := tk8; go_at_call 16; clear _t; go_loud (refine (get_bw A3 c3 4 q8 v u (-7) 5 _ (G8.out.getN (A := A3) (c := c3) (by simp)) q8_len q8_set.1.1 (G8.out.getK (g := g2 + 1) (u := v) (X := -7) (by simp)).r (G8.out.getK (g := g2) (u := u) (X := 5) (by simp)).r (by omega) (by omega)).mono ?_; rintro e w8 ⟨rfl, b⟩; rw [show getQ q8 (-7) 5 = 0 by rw [got8]; rfl]; have G9 := Lib.hid (G8.out.step b); have f0 := (G9.out.getB (g := g3) (v := .slice A3 4 c3) (by simp)); have f1 := (G9.out.getB (g := g4) (v := .slice A4 0 c4) (by simp)); have x0 := (G9.out.getK (g := g2) (u := u) (X := 5) (by simp)).c0; have x1 := (G9.out.getK (g := g2) (u := u) (X := 5) (by simp)).c1; have y0 := (G9.out.getK (g := g2 + 1) (u := v) (X := -7) (by simp)).c0; have y1 := (G9.out.getK (g := g2 + 1) (u := v) (X := -7) (by simp)).c1; clear b; have tk9 := tk8; clear tk8))
   | (have _t := tk9; go_at_call 19; clear _t; go_loud (refine (most_lk A3 c3 4 q8 _ (G9.out.getN (A := A3) (c := c3) (by simp)) q8_len).mono ?_; rintro e w9 ⟨rfl, b⟩; rw [q8_most]; have G10 := Lib.hid (G9.out.step b); have f0 := (G10.out.getB (g := g3) (v := .slice A3 4 c3) (by simp)); have f1 := (G10.out.getB (g := g4) (v := .slice A4 0 c4) (by simp)); have x0 := (G10.out.getK (g := g2) (u := u) (X := 5) (by simp)).c0; have x1 := (G10.out.getK (g := g2) (u := u) (X := 5) (by simp)).c1; have y0 := (G10.out.getK (g := g2 + 1) (u := v) (X := -7) (by simp)).c0; have y1 := (G10.out.getK (g := g2 + 1) (u := v) (X := -7) (by simp)).c1; clear b; have tk10 := tk9; clear tk9))
   | (have _t := tk10; go_at_call 16; clear _t; go_loud (refine (get_bw none 0 0 [] u v 5 (-7) _ (ns_nil _) rfl rfl (G10.out.getK (g := g2) (u := u) (X := 5) (by simp)).r (G10.out.getK (g := g2 + 1) (u := v) (X := -7) (by simp)).r (by omega) (by omega)).mono ?_; rintro e w10 ⟨rfl, b⟩; rw [none8]; have G11 := Lib.hid (G10.out.step b); have f0 := (G11.out.getB (g := g3) (v := .slice A3 4 c3) (by simp)); have f1 := (G11.out.getB (g := g4) (v := .slice A4 0 c4) (by simp)); have x0 := (G11.out.getK (g := g2) (u := u) (X := 5) (by simp)).c0; have x1 := (G11.out.getK (g := g2) (u := u) (X := 5) (by simp)).c1; have y0 := (G11.out.getK (g := g2 + 1) (u := v) (X := -7) (by simp)).c0; have y1 := (G11.out.getK (g := g2 + 1) (u := v) (X := -7) (by simp)).c1; clear b; have tk11 := tk10; clear tk10))
   | (have _t := tk11; go_at_call 24; clear _t; go_loud (refine (nrright_any A3 c3 4 q8 _ (G11.out.getN (A := A3) (c := c3) (by simp)) q8_len (by omega)).mono ?_; rintro e w11 ⟨rfl, b⟩; rw [q8_set.1.quad]; have G12 := Lib.hid (G11.out.step b); have f0 := (G12.out.getB (g := g3) (v := .slice A3 4 c3) (by simp)); have f1 := (G12.out.getB (g := g4) (v := .slice A4 0 c4) (by simp)); have x0 := (G12.out.getK (g := g2) (u := u) (X := 5) (by simp)).c0; have x1 := (G12.out.getK (g := g2) (u := u) (X := 5) (by simp)).c1; have y0 := (G12.out.getK (g := g2 + 1) (u := v) (X := -7) (by simp)).c0; have y1 := (G12.out.getK (g := g2 + 1) (u := v) (X := -7) (by simp)).c1; clear b; have tk12 := tk11; clear tk11)))
  go_ret
  exact ⟨rfl, G12.out.b⟩
end Go.Proofs.Ytdmkiioimmmlbaa
