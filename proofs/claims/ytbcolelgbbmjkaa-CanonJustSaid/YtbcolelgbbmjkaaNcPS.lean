/-
  canon: Shrink.
-/
import Derived.Test.YtbcolelgbbmjkaaNcPB
import Derived.Deep.DeepCutAuto

namespace Go.Proofs.Ytbcolelgbbmjkaa
set_option linter.unusedVariables false
set_option linter.unusedSimpArgs false
open Go.RowKit Nds
theorem holB_den {l : List Nd} (hb : Bar l) (hl : looseB l = true) {p : Nat} (hp : p < l.length) (hne : den l (p + 1) ≠ .e) : holB l (at_ l p) = holT (den l (p + 1)) := by
  have hv := fit_lv (loose_fit hl hp)
  by_cases h1 : 1 < (at_ l p).lv
  · have hi := bar_hol hb hl hp h1 hne
    rw [Bool.eq_iff_iff, hi]
    unfold holB
    rw [decide_eq_true h1, Bool.true_and, List.all_eq_true]
    exact ⟨fun h k hk => h k (List.mem_range.2 hk), fun h k hk => h k (List.mem_range.1 hk)⟩
  · rw [holB_one (by omega)]
    cases hh : holT (den l (p + 1))
    · rfl
    · exact absurd (hol_lv hl hp hh).1 h1
/-- Two rows of the call's own, apart. -/
structure Two (w : World) (base : Nat) (v u : Value) (L M : List Nd) (W : World) : Prop where
  one : OwnN W base v L
  two : OwnN W base u M
  apart : ∀ k, v.ownBlock = some k → u.ownBlock ≠ some k
  low : base ≤ W.heap.size
  below : Below base w W
theorem OwnN.mono {w : World} {base b : Nat} {v : Value} {l : List Nd} (h : OwnN w base v l) (hb : b ≤ base) : OwnN w b v l := by
  refine ⟨h.1, h.2.1, ?_⟩
  rcases h.2.2 with h2 | ⟨g, cap, cur, hv, hg, r⟩
  · exact .inl h2
  · exact .inr ⟨g, cap, cur, hv, Nat.le_trans hb hg, r⟩
theorem Two.alloc {w W : World} {base : Nat} {v u : Value} {L M : List Nd} (h : Two w base v u L M W) (o : Obj) : Two w base v u L M (W.alloc o) :=
  ⟨h.one.alloc o, h.two.alloc o, h.apart, by have := h.low; simp; omega, h.below.alloc h.low o⟩
theorem Two.step {w W W' : World} {base : Nat} {v u : Value} {L M : List Nd} (h : Two w base v u L M W) (b : Below W.heap.size W W') : Two w base v u L M W' :=
  ⟨h.one.stays b, h.two.stays b, h.apart, Nat.le_trans h.low b.size, h.below.trans (b.mono h.low)⟩
theorem Two.app1 {w W W' : World} {base : Nat} {v v' u : Value} {L L' M : List Nd} (h : Two w base v u L M W) (ho : OwnN W' base v' L') (hg : W.grownBy W' v.ownBlock) (hk : v'.ownBlock = v.ownBlock ∨ v'.ownBlock = some W.heap.size) : Two w base v' u L' M W' := by
  refine ⟨ho, h.two.gbr hg (own_dec fun k hk2 e => h.apart k e hk2), fun k hk2 e => ?_, Nat.le_trans h.low hg.size, h.below.grown hg h.low fun k hk2 => (h.one.lt k hk2).1⟩
  rcases hk with h1 | h1
  · exact h.apart k (h1.symm.trans hk2) e
  · rw [h1] at hk2
    cases hk2
    exact absurd (h.two.lt _ e).2 (Nat.lt_irrefl _)
theorem Two.app2 {w W W' : World} {base : Nat} {v u u' : Value} {L M M' : List Nd} (h : Two w base v u L M W) (ho : OwnN W' base u' M') (hg : W.grownBy W' u.ownBlock) (hk : u'.ownBlock = u.ownBlock ∨ u'.ownBlock = some W.heap.size) : Two w base v u' L M' W' := by
  refine ⟨h.one.gbr hg (own_dec fun k hk2 e => h.apart k hk2 e), ho, fun k hk2 e => ?_, Nat.le_trans h.low hg.size, h.below.grown hg h.low fun k hk2 => (h.two.lt k hk2).1⟩
  rcases hk with h1 | h1
  · exact h.apart k hk2 (h1.symm.trans e)
  · rw [h1] at e
    cases e
    exact absurd (h.one.lt _ hk2).2 (Nat.lt_irrefl _)
/-- Where Shrink stands. -/
def SP (l : List Nd) (t : Tr) (G B : List Nd) (p : Nat) : Prop := SS l t B p ∧ Like G B ∧ Bar B ∧ looseB G = true
theorem SP.start {l : List Nd} (hl : looseB l = true) {p : Nat} (hp : p < l.length) (hne : den l (p + 1) ≠ .e) : SP l (shrT (den l (p + 1))) l (bareL l) p := by
  have hlk := like_bare hl
  have hs := SS.start (l := bareL l) (bare_dens hl).2 (p := p) (by rw [bare_len]; exact hp) (by rw [← like_den hlk]; exact hne)
  rw [← like_den hlk] at hs
  refine ⟨?_, hlk, bare_bar hl, hl⟩
  obtain ⟨h1, h2, h3, h4, h5⟩ := hs
  exact ⟨h1, h2, h3, h4, by rw [bare_len] at h5 ⊢; exact h5⟩
theorem SP.next {l G B : List Nd} {t : Tr} {p : Nat} (h : SP l t G B p) (hh : holT (den B (p + 1)) = true) : SP l t (G ++ [innN B (at_ B p)]) (B ++ [innN B (at_ B p)]) B.length := by
  obtain ⟨h1, h2, h3, h4⟩ := h
  obtain ⟨a1, a2, a3, a4, a5⟩ := id h1
  obtain ⟨hv, hne⟩ := hol_lv a1 a2 hh
  have hf := (inn_step a1 a2 hv hne).1
  exact ⟨h1.next hh, like_snoc h2 _, bar_snoc h3 a1 a2 hv hf, loose_snoc h4 (like_fit h2 hf)⟩
theorem bare_at_cells {w : World} {base n p : Nat} {v : Value} {l : List Nd} {e : Bool} (h : OwnN w base v (bareL l)) (hn : l.length = n) (hp : p < l.length) (he : (bareN l (at_ l p)).each (· == 0) = e) :
    ∃ b off c, v = .slice (some ⟨b, off, none⟩) n c ∧ w.cell? ⟨b, off + p * 5 + 1, none⟩ = some (.int .i64 (bareN l (at_ l p)).a) ∧ w.cell? ⟨b, off + p * 5 + 2, none⟩ = some (.int .i64 (bareN l (at_ l p)).b) ∧ w.cell? ⟨b, off + p * 5 + 3, none⟩ = some (.int .i64 (bareN l (at_ l p)).c) ∧ w.cell? ⟨b, off + p * 5 + 4, none⟩ = some (.int .i64 (bareN l (at_ l p)).d) ∧
    (∀ w, (binOp .eql 36 (.agg #[.int .i64 (bareN l (at_ l p)).a, .int .i64 (bareN l (at_ l p)).b, .int .i64 (bareN l (at_ l p)).c, .int .i64 (bareN l (at_ l p)).d]) (.agg #[.int .i64 0, .int .i64 0, .int .i64 0, .int .i64 0])).run Try.prog w = .ok (.bool e) w) ∧ n ≤ c := by
  obtain ⟨A, c, hv, hns, -, -⟩ := h.shape
  rw [bare_len] at hv
  obtain ⟨b, off, rfl, _, hc⟩ := hns.at_ (by rw [bare_len]; omega)
  have hcp := hc p (by rw [bare_len]; exact hp)
  have hw := hns.wf (i := p) (by rw [bare_len]; exact hp)
  rw [bare_at hp] at hcp hw
  obtain ⟨-, h2, h3, h4, h5⟩ := hcp
  have hcap := hns.cap
  rw [bare_len] at hcap
  exact ⟨b, off, c, by rw [hv, hn], h2, h3, h4, h5, fun w => by rw [← he]; exact eql_four _ hw w, by omega⟩
set_option maxRecDepth 100000 in
set_option maxHeartbeats 6400000 in
theorem pshrink_any (A : Option Addr) (c n : Nat) (l : List Nd) (k : Nat) (w : World) (h : Ns w A c l) (hn : l.length = n) (hl : looseB l = true) (hn9 : n ≤ 900000) (hA : A = none → c = 0) (hk : k ≤ n) :
    Calls Try.prog 14 #[.slice A n c, .int .i64 (k : Int)] w (RetS l k w) := by
  have hcap := h.cap
  rw [hn] at hcap
  have HN := Lib.hid h
  have HL := Lib.hid hn
  have HLL := Lib.hid hl
  have HA := Lib.hid hA
  have q0 : True := trivial
  clear h hn hl hA
  rcases (show k = 0 ∨ ∃ p, k = p + 1 by cases k with | zero => exact .inl rfl | succ p => exact .inr ⟨p, rfl⟩) with rfl | ⟨p, rfl⟩
  · go_enter Try.func14, Try.ntmps14
    go_wp2_with (first
      | (have _t := q0; go_at_call 22; clear _t; go_loud (refine (clone_any _ _ n l _ HN.out HL.out (by omega) HA.out).mono ?_; rintro e w1 ⟨v, rfl, o1, b1⟩; have HO := Lib.hid o1; have HB := Lib.hid b1; clear o1 b1; have q1 := q0; clear q0))
      | (have _t := q1; go_at_call 24; clear _t; go_loud (refine (bared_any _ _ n l _ (HN.out.below HB.out) HL.out (by omega) HLL.out HA.out).mono ?_; rintro e w2 ⟨v2, rfl, o2, b2⟩; have HB2 := Lib.hid b2; clear o2 b2; have q2 := q1; clear q1)))
    go_ret2
    refine ⟨v, l, 0, rfl, HO.out.stays HB2.out, HLL.out, Nat.zero_le _, by rw [den_zero, shr_e], by omega, HB.out.trans (HB2.out.mono HB.out.size)⟩
  · have hpl : p < l.length := by rw [HL.out]; omega
    have hbe := bare_each (loose_fit HLL.out hpl)
    rw [← den_loose HLL.out hpl] at hbe
    have HBE := Lib.hid hbe
    have HPL := Lib.hid hpl
    have i1 : (p : Int) < (n : Int) := by omega
    have t1 : ((p : Int) + 1 == 0) = false := beq_eq_false_iff_ne.2 (by omega)
    rw [show ((p + 1 : Nat) : Int) = (p : Int) + 1 by omega]
    clear hbe hpl
    go_enter Try.func14, Try.ntmps14
    cases hE : (den l (p + 1)).isE with
    | true =>
      have HE := Lib.hid hE
      clear hE
      go_wp2_with (first
        | (have _t := q0; go_at_call 22; clear _t; go_loud (refine (clone_any _ _ n l _ HN.out HL.out (by omega) HA.out).mono ?_; rintro e w1 ⟨v, rfl, o1, b1⟩; have HO := Lib.hid o1; have HB := Lib.hid b1; clear o1 b1; have q1 := q0; clear q0))
        | (have _t := q1; go_at_call 24; clear _t; go_loud (refine (bared_any _ _ n l _ (HN.out.below HB.out) HL.out (by omega) HLL.out HA.out).mono ?_; rintro e w2 ⟨v2, rfl, o2, b2⟩; have HB2 := Lib.hid b2; obtain ⟨b, off, cc, rfl, d2, d3, d4, d5, hq4, j1⟩ := bare_at_cells o2 HL.out HPL.out HBE.out; rw [HE.out] at hq4; clear o2 b2; have q2 := q1; clear q1)))
      go_ret2
      refine ⟨v, l, 0, rfl, HO.out.stays HB2.out, HLL.out, Nat.zero_le _, by rw [den_zero, isE_iff.1 HE.out, shr_e], by omega, HB.out.trans (HB2.out.mono HB.out.size)⟩
    | false =>
      have HE := Lib.hid hE
      have HSP := Lib.hid (SP.start HLL.out HPL.out (isE_no.1 hE))
      clear hE
      go_wp2_with (first
        | (have _t := q0; go_at_call 22; clear _t; go_loud (refine (clone_any _ _ n l _ HN.out HL.out (by omega) HA.out).mono ?_; rintro e w1 ⟨v, rfl, o1, b1⟩; have HO := Lib.hid o1; have HB := Lib.hid b1; clear o1 b1; have q1 := q0; clear q0))
        | (have _t := q1; go_at_call 24; clear _t; go_loud (refine (bared_any _ _ n l _ (HN.out.below HB.out) HL.out (by omega) HLL.out HA.out).mono ?_; rintro e w2 ⟨v2, rfl, o2, b2⟩; have HB2 := Lib.hid b2; have HO2 := Lib.hid o2; obtain ⟨b, off, cc, rfl, d2, d3, d4, d5, hq4, j1⟩ := bare_at_cells o2 HL.out HPL.out HBE.out; rw [HE.out] at hq4; clear o2 b2; have q2 := q1; clear q1)))
      have HT0 := Lib.hid (show Two w w.heap.size v (.slice (some ⟨b, off, none⟩) n cc) l (bareL l) w2 from ⟨HO.out.stays HB2.out, HO2.out.mono HB.out.size, fun k hk e => by have h1 := (HO.out.lt k hk).2; have h2 := (HO2.out.lt k e).1; omega, Nat.le_trans HB.out.size HB2.out.size, HB.out.trans (HB2.out.mono HB.out.size)⟩)
      obtain ⟨u0, hu0⟩ : ∃ u0, u0 = Value.slice (some ⟨b, off, none⟩) n cc := ⟨_, rfl⟩
      rw [← hu0] at HT0 ⊢
      clear hu0 d2 d3 d4 d5 hq4 j1
      go_loopw [6, 7, 1, 8, 9] (fun z1 z2 z3 z4 z5 wr => ∃ (G B : List Nd) (r : Nat) (v u s8 s9 : Value), v = z1 ∧ u = z2 ∧ z3 = .int .i64 ((r : Int) + 1) ∧ z4 = s8 ∧ z5 = s9 ∧ Two w w.heap.size v u G B wr ∧ SP l (shrT (den l (p + 1))) G B r) (fun z1 _ _ _ _ _ => n + 2000 - lenOf z1)
      case atStart => exact ⟨l, bareL l, p, _, _, _, _, rfl, rfl, rfl, rfl, rfl, HT0.out, HSP.out⟩
      case round =>
        obtain ⟨G, B, r, v', u', s8, s9, rfl, rfl, rfl, rfl, rfl, htw, hsp⟩ := hrel
        have HTW := Lib.hid htw
        have HSQ := Lib.hid hsp
        obtain ⟨hss, hlk, hbar, hlg⟩ := id hsp
        obtain ⟨a1, a2, a3, a4, a5⟩ := id hss
        have hlen := hss.len
        rw [HL.out] at hlen
        have hgl : G.length = B.length := hlk.1
        obtain ⟨A1, c1, hv1, hn1, -, -⟩ := htw.one.shape
        obtain ⟨A2, c2, hv2, hn2, -, -⟩ := htw.two.shape
        obtain ⟨bn, hbn⟩ : ∃ bn, bn = B.length := ⟨_, rfl⟩
        rw [hgl, ← hbn] at hv1
        rw [← hbn] at hv2 hlen a2
        subst hv1
        subst hv2
        have HBN := Lib.hid hbn
        have hhb := holB_den hbar a1 (p := r) (by rw [← hbn]; exact a2) a3
        have hfx := loose_fit a1 (i := r) (by rw [← hbn]; exact a2)
        obtain ⟨b2, off2, rfl, hb2, hc2⟩ := hn2.at_ (by omega)
        obtain ⟨e1, e2, e3, e4, e5⟩ := hc2 r (by omega)
        have hcap2 := hn2.cap
        rw [← hbn] at hcap2
        obtain ⟨x, hx⟩ : ∃ x, x = at_ B r := ⟨_, rfl⟩
        rw [← hx] at e1 e2 e3 e4 e5 hhb hfx
        have HX := Lib.hid hx
        have HFX := Lib.hid hfx
        have HA1 := Lib.hid a1
        have HN2 := Lib.hid hn2
        have HHB := Lib.hid hhb
        have HA3 := Lib.hid a3
        have HA4 := Lib.hid a4
        have HLK := Lib.hid hlk
        have HLG := Lib.hid hlg
        have i2 : (r : Int) < (bn : Int) := by omega
        clear hx hfx a1 a3 a4 a5 hn1 hn2 hhb hlk hlg hbar hss hsp htw hc2 hb2 hgl hbn
        cases hh : holB B x with
        | false =>
          have HH := Lib.hid hh
          have HN := Lib.hid (halfN_no hh)
          clear hh
          go_wp2_with (go_at_call 25; go_loud (refine (inner_any _ _ bn B x _ HN2.out HBN.out.symm (by omega) HA1.out HFX.out).mono ?_; rintro e w3 ⟨rfl, b3⟩; have HB3 := Lib.hid b3; clear b3; rw [HH.out, HN.out]))
          go_ret2
          have htw := (HTW.out.step HB3.out).alloc (.cells #[.int .i64 nd0.lv, .int .i64 nd0.a, .int .i64 nd0.b, .int .i64 nd0.c, .int .i64 nd0.d] 38)
          have hgl := HLK.out.1
          have hbn := HBN.out
          have hll := HL.out
          refine ⟨.slice A1 bn c1, G, r + 1, rfl, htw.one, HLG.out, by omega, ?_, by omega, htw.below⟩
          rw [like_den HLK.out, ← HA4.out, shr_done (by rw [← HHB.out]; exact HH.out)]
        | true =>
          have HH := Lib.hid hh
          have HN := Lib.hid (halfN_yes hh)
          clear hh
          obtain ⟨y, hy⟩ : ∃ y, y = innN B x := ⟨_, rfl⟩
          rw [← hy] at HN
          have HY := Lib.hid hy
          clear hy
          go_wp2_with (go_at_call 25; go_loud (refine (inner_any _ _ bn B x _ HN2.out HBN.out.symm (by omega) HA1.out HFX.out).mono ?_; rintro e w3 ⟨rfl, b3⟩; have HB3 := Lib.hid b3; clear b3; rw [HH.out, HN.out]))
          -- the region
          have hTV := (HTW.out.step HB3.out).alloc (.cells #[.int .i64 y.lv, .int .i64 y.a, .int .i64 y.b, .int .i64 y.c, .int .i64 y.d] 38)
          have hbx := NdBox.new w3 y
          have hwy := Lib.hid (show y.wf from by
            rw [HY.out, HX.out]
            have h1 := HSQ.out.1
            have h2 : holT (den B (r + 1)) = true := by rw [← HHB.out]; exact HH.out
            obtain ⟨k1, k2⟩ := hol_lv h1.1 h1.2.1 h2
            exact fit_wf (inn_step h1.1 h1.2.1 k1 k2).1 (by rw [← HBN.out]; omega))
          have hx1 : (Value.slice A1 bn c1).ownBlock ≠ some w3.heap.size := fun e => by have := (HTW.out.step HB3.out).one.lt _ e; omega
          have hx2 : (Value.slice (some ⟨b2, off2, none⟩) bn c2).ownBlock ≠ some w3.heap.size := fun e => by have := (HTW.out.step HB3.out).two.lt _ e; omega
          obtain ⟨gx, hgx⟩ : ∃ gx, gx = w3.heap.size := ⟨_, rfl⟩
          rw [← hgx] at hbx hx1 hx2 ⊢
          have XXone := Lib.hid hx1
          have XXtwo := Lib.hid hx2
          generalize hVV : World.alloc _ _ = V at *
          clear hVV hgx hx1 hx2 e1 e2 e3 e4 e5
          have TV := Lib.hid hTV
          have SV := Lib.hid hbx
          clear hTV hbx
          go_cut [6, 7] (fun s6 s7 wx => Two w w.heap.size s6 s7 (G ++ [y]) (B ++ [y]) wx)
          case first =>
            refine wp_region_noPanic ?_
            refine wp_region_held (S := fun w' => w'.cell? ⟨gx, 0, none⟩ = some (.int .i64 y.lv) ∧ w'.cell? ⟨gx, 1, none⟩ = some (.int .i64 y.a) ∧ w'.cell? ⟨gx, 2, none⟩ = some (.int .i64 y.b) ∧ w'.cell? ⟨gx, 3, none⟩ = some (.int .i64 y.c) ∧ w'.cell? ⟨gx, 4, none⟩ = some (.int .i64 y.d)) (by kernel_rfl) ?_
            obtain ⟨W0, hW0⟩ : ∃ W0 : World, W0 = V.drew := ⟨_, rfl⟩
            have T0 := Lib.hid (show Two w w.heap.size (Value.slice A1 bn c1) (Value.slice (some ⟨b2, off2, none⟩) bn c2) G B W0 by rw [hW0]; exact ⟨TV.out.one, TV.out.two, TV.out.apart, TV.out.low, TV.out.below.drew⟩)
            have hS0' := Lib.hid (show NdBox W0 gx y by rw [hW0]; exact SV.out)
            have hS0 : NdAt W0 gx 0 y := hS0'.out.at_
            change wpAnyH _ _ _ _ _ _ _ _ V.drew
            rw [← hW0]
            clear hW0
            refine wpAnyH_take (i := 0) (v := ?_) rfl (by kernel_rfl) (by kernel_rfl) (by kernel_rfl) (fun _ _ _ h => h) (Or.inl ⟨by rfl, ?_⟩) hS0 ?_
            rotate_left
            · rintro w' ⟨s1, s2, s3, s4, s5⟩
              go_simp
              first | done | with_reducible rfl | rfl
            simp only [Act.put, List.getElem_toArray, List.getElem_cons_succ, List.getElem_cons_zero, List.setIfInBounds_toArray, List.set_cons_zero, List.set_cons_succ]
            refine wpAnyH_take (i := 1) (v := ?_) rfl (by kernel_rfl) (by kernel_rfl) (by kernel_rfl) (fun _ _ _ h => h) (Or.inl ⟨by rfl, ?_⟩) hS0 ?_
            rotate_left
            · rintro w' ⟨s1, s2, s3, s4, s5⟩
              go_simp
              first | done | with_reducible rfl | rfl
            simp only [Act.put, List.getElem_toArray, List.getElem_cons_succ, List.getElem_cons_zero, List.setIfInBounds_toArray, List.set_cons_zero, List.set_cons_succ]
            refine wpAnyH_take (i := 4) (v := ?_) rfl (by kernel_rfl) (by kernel_rfl) (by kernel_rfl) (fun _ _ _ h => h) (Or.inl ⟨by rfl, ?_⟩) hS0 ?_
            rotate_left
            · rintro w' ⟨s1, s2, s3, s4, s5⟩
              go_simp
              first | done | with_reducible rfl | rfl
            simp only [Act.put, List.getElem_toArray, List.getElem_cons_succ, List.getElem_cons_zero, List.setIfInBounds_toArray, List.set_cons_zero, List.set_cons_succ]
            refine wpAnyH_take (i := 5) (v := ?_) rfl (by kernel_rfl) (by kernel_rfl) (by kernel_rfl) (fun _ _ _ h => h) (Or.inl ⟨by rfl, ?_⟩) hS0 ?_
            rotate_left
            · rintro w' ⟨s1, s2, s3, s4, s5⟩
              go_simp
              first | done | with_reducible rfl | rfl
            simp only [Act.put, List.getElem_toArray, List.getElem_cons_succ, List.getElem_cons_zero, List.setIfInBounds_toArray, List.set_cons_zero, List.set_cons_succ]
            have hS0 := hS0'
            refine wpAnyH_ready (rs := [2, 6]) (by kernel_rfl) (by simp) (AllReadyH.cons rfl (fun K hK => ?_) (AllReadyH.cons rfl (fun K hK => ?_) AllReadyH.nil))
            · go_simp
              obtain ⟨g2, hg2⟩ : ∃ g, g = W0.heap.size := ⟨_, rfl⟩
              obtain ⟨W1, hW1⟩ : ∃ Z : World, Z = W0.alloc (.cells #[.int .i64 y.lv, .int .i64 y.a, .int .i64 y.b, .int .i64 y.c, .int .i64 y.d] 38) := ⟨_, rfl⟩
              have T1 := Lib.hid (show Two _ _ _ _ _ _ W1 by rw [hW1]; exact T0.out.alloc _)
              have hS1 := Lib.hid (hS0.out.stay (w' := W1) (by rw [hW1]; exact Below.heap_alloc _ _ _ hS0.out.lt))
              have ns2 := Lib.hid (show Ns W1 (some ⟨g2, 0, none⟩) 1 [y] by rw [hW1]; exact ns_lit1 W0 g2 y hwy.out hg2.symm)
              have d2 := Lib.hid (show (∀ k, (Value.slice A1 bn c1).ownBlock = some k → k ≠ g2) ∧ (∀ k, (Value.slice (some ⟨b2, off2, none⟩) bn c2).ownBlock = some k → k ≠ g2) from ⟨fun k hk => by have := (T0.out.one.lt k hk).2; omega, fun k hk => by have := (T0.out.two.lt k hk).2; omega⟩)
              rw [← hg2, ← hW1]
              clear hg2 hW1
              refine hK.out _ _ hS1.out.at_ (fun _ => ?_)
              clear hK K
              refine wpAnyH_ready (rs := [3, 6]) (by kernel_rfl) (by simp) (AllReadyH.cons rfl (fun K hK => ?_) (AllReadyH.cons rfl (fun K hK => ?_) AllReadyH.nil))
              · rw [if_pos (by rfl)]
                refine oper_append_nodes (.tmp 41) (.tmp 43) rfl w.heap.size (Value.slice A1 bn c1) G [y] (some ⟨g2, 0, none⟩) 1 1 rfl rfl T1.out.one ns2.out rfl (fun e => by cases e) (by have := HBN.out; have := HLK.out.1; omega) T1.out.low ?_
                intro v3 W2 ho hgw hat
                simp only [Act.put, List.getElem_toArray, List.getElem_cons_succ, List.getElem_cons_zero, List.setIfInBounds_toArray, List.set_cons_zero, List.set_cons_succ]
                have T2 := Lib.hid (T1.out.app1 ho hgw hat)
                have hS2 := Lib.hid (hS1.out.stay (w' := W2) (hgw.block gx hS1.out.lt (fun e => absurd e.symm (XXone.out))))
                refine hK.out _ _ hS2.out.at_ (fun _ => ?_)
                clear hK K ho hgw hat
                refine wpAnyH_ready (rs := [6]) (by kernel_rfl) (by simp) (AllReadyH.cons rfl (fun K hK => ?_) AllReadyH.nil)
                go_simp
                obtain ⟨g6, hg6⟩ : ∃ g, g = W2.heap.size := ⟨_, rfl⟩
                obtain ⟨W3, hW3⟩ : ∃ Z : World, Z = W2.alloc (.cells #[.int .i64 y.lv, .int .i64 y.a, .int .i64 y.b, .int .i64 y.c, .int .i64 y.d] 38) := ⟨_, rfl⟩
                have T3 := Lib.hid (show Two _ _ _ _ _ _ W3 by rw [hW3]; exact T2.out.alloc _)
                have hS3 := Lib.hid (hS2.out.stay (w' := W3) (by rw [hW3]; exact Below.heap_alloc _ _ _ hS2.out.lt))
                have ns6 := Lib.hid (show Ns W3 (some ⟨g6, 0, none⟩) 1 [y] by rw [hW3]; exact ns_lit1 W2 g6 y hwy.out hg6.symm)
                have d6 := Lib.hid (show (∀ k, v3.ownBlock = some k → k ≠ g6) ∧ (∀ k, (Value.slice (some ⟨b2, off2, none⟩) bn c2).ownBlock = some k → k ≠ g6) from ⟨fun k hk => by have := (T2.out.one.lt k hk).2; omega, fun k hk => by have := (T2.out.two.lt k hk).2; omega⟩)
                rw [← hg6, ← hW3]
                clear hg6 hW3
                refine hK.out _ _ hS3.out.at_ (fun _ => ?_)
                clear hK K
                refine wpAnyH_ready (rs := [7]) (by kernel_rfl) (by simp) (AllReadyH.cons rfl (fun K hK => ?_) AllReadyH.nil)
                rw [if_pos (by rfl)]
                refine oper_append_nodes (.tmp 45) (.tmp 47) rfl w.heap.size (Value.slice (some ⟨b2, off2, none⟩) bn c2) B [y] (some ⟨g6, 0, none⟩) 1 1 rfl rfl T3.out.two ns6.out rfl (fun e => by cases e) (by have := HBN.out; have := HLK.out.1; omega) T3.out.low ?_
                intro u7 W4 ho hgw hat
                simp only [Act.put, List.getElem_toArray, List.getElem_cons_succ, List.getElem_cons_zero, List.setIfInBounds_toArray, List.set_cons_zero, List.set_cons_succ]
                have T4 := Lib.hid (T3.out.app2 ho hgw hat)
                have hS4 := Lib.hid (hS3.out.stay (w' := W4) (hgw.block gx hS3.out.lt (fun e => absurd e.symm (XXtwo.out))))
                refine hK.out _ _ hS4.out.at_ (fun _ => ?_)
                clear hK K ho hgw hat
                refine wpAnyH_take (i := 8) (v := ?_) rfl (by kernel_rfl) (by kernel_rfl) (by kernel_rfl) (fun _ _ _ h => h) (Or.inl ⟨by rfl, ?_⟩) hS4.out.at_ ?_
                rotate_left
                · rintro w' ⟨s1, s2, s3, s4, s5⟩
                  go_simp
                  first | done | with_reducible rfl | rfl
                simp only [Act.put, List.getElem_toArray, List.getElem_cons_succ, List.getElem_cons_zero, List.setIfInBounds_toArray, List.set_cons_zero, List.set_cons_succ]
                refine wpAnyH_take (i := 9) (v := ?_) rfl (by kernel_rfl) (by kernel_rfl) (by kernel_rfl) (fun _ _ _ h => h) (Or.inl ⟨by rfl, ?_⟩) hS4.out.at_ ?_
                rotate_left
                · rintro w' ⟨s1, s2, s3, s4, s5⟩
                  go_simp
                  first | done | with_reducible rfl | rfl
                simp only [Act.put, List.getElem_toArray, List.getElem_cons_succ, List.getElem_cons_zero, List.setIfInBounds_toArray, List.set_cons_zero, List.set_cons_succ]
                refine wpAnyH_done (by kernel_rfl) ?_ _
                refine NoPanic.normal ?_
                go_wp2_with fail
                go_meet
                exact T4.out
              · go_simp
                obtain ⟨g6, hg6⟩ : ∃ g, g = W1.heap.size := ⟨_, rfl⟩
                obtain ⟨W3, hW3⟩ : ∃ Z : World, Z = W1.alloc (.cells #[.int .i64 y.lv, .int .i64 y.a, .int .i64 y.b, .int .i64 y.c, .int .i64 y.d] 38) := ⟨_, rfl⟩
                have T3 := Lib.hid (show Two _ _ _ _ _ _ W3 by rw [hW3]; exact T1.out.alloc _)
                have hS3 := Lib.hid (hS1.out.stay (w' := W3) (by rw [hW3]; exact Below.heap_alloc _ _ _ hS1.out.lt))
                have ns6 := Lib.hid (show Ns W3 (some ⟨g6, 0, none⟩) 1 [y] by rw [hW3]; exact ns_lit1 W1 g6 y hwy.out hg6.symm)
                have d6 := Lib.hid (show (∀ k, (Value.slice A1 bn c1).ownBlock = some k → k ≠ g6) ∧ (∀ k, (Value.slice (some ⟨b2, off2, none⟩) bn c2).ownBlock = some k → k ≠ g6) from ⟨fun k hk => by have := (T1.out.one.lt k hk).2; omega, fun k hk => by have := (T1.out.two.lt k hk).2; omega⟩)
                have ns2 := Lib.hid (show Ns W3 (some ⟨g2, 0, none⟩) 1 [y] by rw [hW3]; exact ns2.out.below ((Below.refl _ _).alloc (Nat.le_refl _) _))
                rw [← hg6, ← hW3]
                clear hg6 hW3
                refine hK.out _ _ hS3.out.at_ (fun _ => ?_)
                clear hK K
                refine wpAnyH_ready (rs := [3]) (by kernel_rfl) (by simp) (AllReadyH.cons rfl (fun K hK => ?_) AllReadyH.nil)
                rw [if_pos (by rfl)]
                refine oper_append_nodes (.tmp 41) (.tmp 43) rfl w.heap.size (Value.slice A1 bn c1) G [y] (some ⟨g2, 0, none⟩) 1 1 rfl rfl T3.out.one ns2.out rfl (fun e => by cases e) (by have := HBN.out; have := HLK.out.1; omega) T3.out.low ?_
                intro v3 W4 ho hgw hat
                simp only [Act.put, List.getElem_toArray, List.getElem_cons_succ, List.getElem_cons_zero, List.setIfInBounds_toArray, List.set_cons_zero, List.set_cons_succ]
                have T4 := Lib.hid (T3.out.app1 ho hgw hat)
                have hS4 := Lib.hid (hS3.out.stay (w' := W4) (hgw.block gx hS3.out.lt (fun e => absurd e.symm (XXone.out))))
                have ns6 := Lib.hid (ns6.out.gbr hgw (fun a ea e => by cases ea; exact (d6.out.1 _ e.symm) rfl))
                refine hK.out _ _ hS4.out.at_ (fun _ => ?_)
                clear hK K ho hgw hat
                refine wpAnyH_ready (rs := [7]) (by kernel_rfl) (by simp) (AllReadyH.cons rfl (fun K hK => ?_) AllReadyH.nil)
                rw [if_pos (by rfl)]
                refine oper_append_nodes (.tmp 45) (.tmp 47) rfl w.heap.size (Value.slice (some ⟨b2, off2, none⟩) bn c2) B [y] (some ⟨g6, 0, none⟩) 1 1 rfl rfl T4.out.two ns6.out rfl (fun e => by cases e) (by have := HBN.out; have := HLK.out.1; omega) T4.out.low ?_
                intro u7 W5 ho hgw hat
                simp only [Act.put, List.getElem_toArray, List.getElem_cons_succ, List.getElem_cons_zero, List.setIfInBounds_toArray, List.set_cons_zero, List.set_cons_succ]
                have T5 := Lib.hid (T4.out.app2 ho hgw hat)
                have hS5 := Lib.hid (hS4.out.stay (w' := W5) (hgw.block gx hS4.out.lt (fun e => absurd e.symm (XXtwo.out))))
                refine hK.out _ _ hS5.out.at_ (fun _ => ?_)
                clear hK K ho hgw hat
                refine wpAnyH_take (i := 8) (v := ?_) rfl (by kernel_rfl) (by kernel_rfl) (by kernel_rfl) (fun _ _ _ h => h) (Or.inl ⟨by rfl, ?_⟩) hS5.out.at_ ?_
                rotate_left
                · rintro w' ⟨s1, s2, s3, s4, s5⟩
                  go_simp
                  first | done | with_reducible rfl | rfl
                simp only [Act.put, List.getElem_toArray, List.getElem_cons_succ, List.getElem_cons_zero, List.setIfInBounds_toArray, List.set_cons_zero, List.set_cons_succ]
                refine wpAnyH_take (i := 9) (v := ?_) rfl (by kernel_rfl) (by kernel_rfl) (by kernel_rfl) (fun _ _ _ h => h) (Or.inl ⟨by rfl, ?_⟩) hS5.out.at_ ?_
                rotate_left
                · rintro w' ⟨s1, s2, s3, s4, s5⟩
                  go_simp
                  first | done | with_reducible rfl | rfl
                simp only [Act.put, List.getElem_toArray, List.getElem_cons_succ, List.getElem_cons_zero, List.setIfInBounds_toArray, List.set_cons_zero, List.set_cons_succ]
                refine wpAnyH_done (by kernel_rfl) ?_ _
                refine NoPanic.normal ?_
                go_wp2_with fail
                go_meet
                exact T5.out
            · go_simp
              obtain ⟨g6, hg6⟩ : ∃ g, g = W0.heap.size := ⟨_, rfl⟩
              obtain ⟨W1, hW1⟩ : ∃ Z : World, Z = W0.alloc (.cells #[.int .i64 y.lv, .int .i64 y.a, .int .i64 y.b, .int .i64 y.c, .int .i64 y.d] 38) := ⟨_, rfl⟩
              have T1 := Lib.hid (show Two _ _ _ _ _ _ W1 by rw [hW1]; exact T0.out.alloc _)
              have hS1 := Lib.hid (hS0.out.stay (w' := W1) (by rw [hW1]; exact Below.heap_alloc _ _ _ hS0.out.lt))
              have ns6 := Lib.hid (show Ns W1 (some ⟨g6, 0, none⟩) 1 [y] by rw [hW1]; exact ns_lit1 W0 g6 y hwy.out hg6.symm)
              have d6 := Lib.hid (show (∀ k, (Value.slice A1 bn c1).ownBlock = some k → k ≠ g6) ∧ (∀ k, (Value.slice (some ⟨b2, off2, none⟩) bn c2).ownBlock = some k → k ≠ g6) from ⟨fun k hk => by have := (T0.out.one.lt k hk).2; omega, fun k hk => by have := (T0.out.two.lt k hk).2; omega⟩)
              rw [← hg6, ← hW1]
              clear hg6 hW1
              refine hK.out _ _ hS1.out.at_ (fun _ => ?_)
              clear hK K
              refine wpAnyH_ready (rs := [2]) (by kernel_rfl) (by simp) (AllReadyH.cons rfl (fun K hK => ?_) AllReadyH.nil)
              go_simp
              obtain ⟨g2, hg2⟩ : ∃ g, g = W1.heap.size := ⟨_, rfl⟩
              obtain ⟨W3, hW3⟩ : ∃ Z : World, Z = W1.alloc (.cells #[.int .i64 y.lv, .int .i64 y.a, .int .i64 y.b, .int .i64 y.c, .int .i64 y.d] 38) := ⟨_, rfl⟩
              have T3 := Lib.hid (show Two _ _ _ _ _ _ W3 by rw [hW3]; exact T1.out.alloc _)
              have hS3 := Lib.hid (hS1.out.stay (w' := W3) (by rw [hW3]; exact Below.heap_alloc _ _ _ hS1.out.lt))
              have ns2 := Lib.hid (show Ns W3 (some ⟨g2, 0, none⟩) 1 [y] by rw [hW3]; exact ns_lit1 W1 g2 y hwy.out hg2.symm)
              have d2 := Lib.hid (show (∀ k, (Value.slice A1 bn c1).ownBlock = some k → k ≠ g2) ∧ (∀ k, (Value.slice (some ⟨b2, off2, none⟩) bn c2).ownBlock = some k → k ≠ g2) from ⟨fun k hk => by have := (T1.out.one.lt k hk).2; omega, fun k hk => by have := (T1.out.two.lt k hk).2; omega⟩)
              have ns6 := Lib.hid (show Ns W3 (some ⟨g6, 0, none⟩) 1 [y] by rw [hW3]; exact ns6.out.below ((Below.refl _ _).alloc (Nat.le_refl _) _))
              rw [← hg2, ← hW3]
              clear hg2 hW3
              refine hK.out _ _ hS3.out.at_ (fun _ => ?_)
              clear hK K
              refine wpAnyH_ready (rs := [3]) (by kernel_rfl) (by simp) (AllReadyH.cons rfl (fun K hK => ?_) AllReadyH.nil)
              rw [if_pos (by rfl)]
              refine oper_append_nodes (.tmp 41) (.tmp 43) rfl w.heap.size (Value.slice A1 bn c1) G [y] (some ⟨g2, 0, none⟩) 1 1 rfl rfl T3.out.one ns2.out rfl (fun e => by cases e) (by have := HBN.out; have := HLK.out.1; omega) T3.out.low ?_
              intro v3 W4 ho hgw hat
              simp only [Act.put, List.getElem_toArray, List.getElem_cons_succ, List.getElem_cons_zero, List.setIfInBounds_toArray, List.set_cons_zero, List.set_cons_succ]
              have T4 := Lib.hid (T3.out.app1 ho hgw hat)
              have hS4 := Lib.hid (hS3.out.stay (w' := W4) (hgw.block gx hS3.out.lt (fun e => absurd e.symm (XXone.out))))
              have ns6 := Lib.hid (ns6.out.gbr hgw (fun a ea e => by cases ea; exact (d6.out.1 _ e.symm) rfl))
              refine hK.out _ _ hS4.out.at_ (fun _ => ?_)
              clear hK K ho hgw hat
              refine wpAnyH_ready (rs := [7]) (by kernel_rfl) (by simp) (AllReadyH.cons rfl (fun K hK => ?_) AllReadyH.nil)
              rw [if_pos (by rfl)]
              refine oper_append_nodes (.tmp 45) (.tmp 47) rfl w.heap.size (Value.slice (some ⟨b2, off2, none⟩) bn c2) B [y] (some ⟨g6, 0, none⟩) 1 1 rfl rfl T4.out.two ns6.out rfl (fun e => by cases e) (by have := HBN.out; have := HLK.out.1; omega) T4.out.low ?_
              intro u7 W5 ho hgw hat
              simp only [Act.put, List.getElem_toArray, List.getElem_cons_succ, List.getElem_cons_zero, List.setIfInBounds_toArray, List.set_cons_zero, List.set_cons_succ]
              have T5 := Lib.hid (T4.out.app2 ho hgw hat)
              have hS5 := Lib.hid (hS4.out.stay (w' := W5) (hgw.block gx hS4.out.lt (fun e => absurd e.symm (XXtwo.out))))
              refine hK.out _ _ hS5.out.at_ (fun _ => ?_)
              clear hK K ho hgw hat
              refine wpAnyH_take (i := 8) (v := ?_) rfl (by kernel_rfl) (by kernel_rfl) (by kernel_rfl) (fun _ _ _ h => h) (Or.inl ⟨by rfl, ?_⟩) hS5.out.at_ ?_
              rotate_left
              · rintro w' ⟨s1, s2, s3, s4, s5⟩
                go_simp
                first | done | with_reducible rfl | rfl
              simp only [Act.put, List.getElem_toArray, List.getElem_cons_succ, List.getElem_cons_zero, List.setIfInBounds_toArray, List.set_cons_zero, List.set_cons_succ]
              refine wpAnyH_take (i := 9) (v := ?_) rfl (by kernel_rfl) (by kernel_rfl) (by kernel_rfl) (fun _ _ _ h => h) (Or.inl ⟨by rfl, ?_⟩) hS5.out.at_ ?_
              rotate_left
              · rintro w' ⟨s1, s2, s3, s4, s5⟩
                go_simp
                first | done | with_reducible rfl | rfl
              simp only [Act.put, List.getElem_toArray, List.getElem_cons_succ, List.getElem_cons_zero, List.setIfInBounds_toArray, List.set_cons_zero, List.set_cons_succ]
              refine wpAnyH_done (by kernel_rfl) ?_ _
              refine NoPanic.normal ?_
              go_wp2_with fail
              go_meet
              exact T5.out
          case rest =>
            have HCUT := Lib.hid hcut
            obtain ⟨A7, c7, hv7, -, -, -⟩ := hcut.one.shape
            have HNX := Lib.hid (HSQ.out.next (by rw [← HHB.out]; exact HH.out))
            rw [← HX.out, ← HY.out] at HNX
            have hgl := HLK.out.1
            have hbn := HBN.out
            have HLN := Lib.hid (show (G ++ [y]).length = bn + 1 by rw [List.length_append, hgl, ← hbn]; rfl)
            rw [HLN.out] at hv7
            subst hv7
            clear hcut hgl hbn
            go_wp2_with fail
            go_roundw
            case rel =>
              refine ⟨G ++ [y], B ++ [y], B.length, _, _, _, _, rfl, rfl, ?_, rfl, rfl, HCUT.out, HNX.out⟩
              rw [← HBN.out]
            case measure =>
              simp [lenOf]
              omega
end Go.Proofs.Ytbcolelgbbmjkaa
