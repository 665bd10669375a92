/-
  canon: Shrink.
  canon: a map that knows each node's number in a list.
  canon: the maps of ordered.
  canon: ordered's add.
  canon: ordered's visit.
  canon: ordered.
-/
import Derived.Test.YtlnmcilcifbcnaaGNcPB
import Derived.Deep.DeepCutAuto
import Derived.Laws.EntriesVeiled
import Derived.Test.YtlnmcilcifbcnaaLay0

set_option linter.unusedVariables false
set_option linter.unusedSimpArgs false
set_option maxRecDepth 100000
namespace Go.Proofs.Ytlnmcilcifbcnaa
open Go.RowKit Nds
theorem holB_den {l : List Nd} (hb : Bar l) (hl : looseB l = true) {p : Nat} (hp : p < l.length) (hne : den l (p + 1) ≠ .e) : holB l (at_ l p) = holT (den l (p + 1)) := by
 have hv := fit_lv (loose_fit hl hp)
 by_cases h1 : 1 < (at_ l p).lv
 ·
  have hi := bar_hol hb hl hp h1 hne
  rw [Bool.eq_iff_iff, hi]
  unfold holB
  rw [decide_eq_true h1, Bool.true_and, List.all_eq_true]
  exact ⟨fun h k hk => h k (List.mem_range.2 hk), fun h k hk => h k (List.mem_range.1 hk)⟩
 ·
  rw [holB_one (by omega)]
  cases hh : holT (den l (p + 1))
  ·
   rfl
  ·
   exact absurd (hol_lv hl hp hh).1 h1
structure Two (w : World) (base : Nat) (v u : Value) (L M : List Nd) (W : World) : Prop where
 one : OwnN W base v L
 two : OwnN W base u M
 apart : ∀ k, v.ownBlock = some k → u.ownBlock ≠ some k
 low : base ≤ W.heap.size
 below : Below base w W
theorem OwnN.mono {w : World} {base b : Nat} {v : Value} {l : List Nd} (h : OwnN w base v l) (hb : b ≤ base) : OwnN w b v l := by
 refine ⟨h.1, h.2.1, ?_⟩
 rcases h.2.2 with h2 | ⟨g, cap, cur, hv, hg, r⟩
 ·
  exact .inl h2
 ·
  exact .inr ⟨g, cap, cur, hv, Nat.le_trans hb hg, r⟩
theorem Two.alloc {w W : World} {base : Nat} {v u : Value} {L M : List Nd} (h : Two w base v u L M W) (o : Obj) : Two w base v u L M (W.alloc o) :=
 ⟨h.one.alloc o, h.two.alloc o, h.apart, by have := h.low; simp; omega, h.below.alloc h.low o⟩
theorem Two.step {w W W' : World} {base : Nat} {v u : Value} {L M : List Nd} (h : Two w base v u L M W) (b : Below W.heap.size W W') : Two w base v u L M W' :=
 ⟨h.one.stays b, h.two.stays b, h.apart, Nat.le_trans h.low b.size, h.below.trans (b.mono h.low)⟩
theorem Two.app1 {w W W' : World} {base : Nat} {v v' u : Value} {L L' M : List Nd} (h : Two w base v u L M W) (ho : OwnN W' base v' L') (hg : W.grownBy W' v.ownBlock) (hk : v'.ownBlock = v.ownBlock ∨ v'.ownBlock = some W.heap.size) : Two w base v' u L' M W' := by
 refine ⟨ho, h.two.gbr hg (own_dec fun k hk2 e => h.apart k e hk2), fun k hk2 e => ?_, Nat.le_trans h.low hg.size, h.below.grown hg h.low fun k hk2 => (h.one.lt k hk2).1⟩
 rcases hk with h1 | h1
 ·
  exact h.apart k (h1.symm.trans hk2) e
 ·
  rw [h1] at hk2
  cases hk2
  exact absurd (h.two.lt _ e).2 (Nat.lt_irrefl _)
theorem Two.app2 {w W W' : World} {base : Nat} {v u u' : Value} {L M M' : List Nd} (h : Two w base v u L M W) (ho : OwnN W' base u' M') (hg : W.grownBy W' u.ownBlock) (hk : u'.ownBlock = u.ownBlock ∨ u'.ownBlock = some W.heap.size) : Two w base v u' L M' W' := by
 refine ⟨h.one.gbr hg (own_dec fun k hk2 e => h.apart k hk2 e), ho, fun k hk2 e => ?_, Nat.le_trans h.low hg.size, h.below.grown hg h.low fun k hk2 => (h.two.lt k hk2).1⟩
 rcases hk with h1 | h1
 ·
  exact h.apart k hk2 (h1.symm.trans e)
 ·
  rw [h1] at e
  cases e
  exact absurd (h.one.lt _ hk2).2 (Nat.lt_irrefl _)
def SP (l : List Nd) (t : Tr) (G B : List Nd) (p : Nat) : Prop := SS l t B p ∧ Like G B ∧ Bar B ∧ looseB G = true
theorem SP.start {l : List Nd} (hl : looseB l = true) {p : Nat} (hp : p < l.length) (hne : den l (p + 1) ≠ .e) : SP l (shrT (den l (p + 1))) l (bareL l) p := by
 have hlk := like_bare hl
 have hs := SS.start (l := bareL l) (bare_dens hl).2 (p := p) (by rw [bare_len]; exact hp) (by rw [← like_den hlk]; exact hne)
 rw [← like_den hlk] at hs
 refine ⟨?_, hlk, bare_bar hl, hl⟩
 obtain ⟨h1, h2, h3, h4, h5⟩ := hs
 exact ⟨h1, h2, h3, h4, by rw [bare_len] at h5 ⊢; exact h5⟩
theorem SP.next {l G B : List Nd} {t : Tr} {p : Nat} (h : SP l t G B p) (hh : holT (den B (p + 1)) = true) : SP l t (G ++ [innN B (at_ B p)]) (B ++ [innN B (at_ B p)]) B.length := by
 obtain ⟨h1, h2, h3, h4⟩ := h
 obtain ⟨a1, a2, a3, a4, a5⟩ := id h1
 obtain ⟨hv, hne⟩ := hol_lv a1 a2 hh
 have hf := (inn_step a1 a2 hv hne).1
 exact ⟨h1.next hh, like_snoc h2 _, bar_snoc h3 a1 a2 hv hf, loose_snoc h4 (like_fit h2 hf)⟩
theorem bare_at_cells {w : World} {base n p : Nat} {v : Value} {l : List Nd} {e : Bool} (h : OwnN w base v (bareL l)) (hn : l.length = n) (hp : p < l.length) (he : (bareN l (at_ l p)).each (· == 0) = e) :
  ∃ b off c, v = .slice (some ⟨b, off, none⟩) n c ∧ w.cell? ⟨b, off + p * 5 + 1, none⟩ = some (.int .i64 (bareN l (at_ l p)).a) ∧ w.cell? ⟨b, off + p * 5 + 2, none⟩ = some (.int .i64 (bareN l (at_ l p)).b) ∧ w.cell? ⟨b, off + p * 5 + 3, none⟩ = some (.int .i64 (bareN l (at_ l p)).c) ∧ w.cell? ⟨b, off + p * 5 + 4, none⟩ = some (.int .i64 (bareN l (at_ l p)).d) ∧
  (∀ w, (binOp .eql 64 (.agg #[.int .i64 (bareN l (at_ l p)).a, .int .i64 (bareN l (at_ l p)).b, .int .i64 (bareN l (at_ l p)).c, .int .i64 (bareN l (at_ l p)).d]) (.agg #[.int .i64 0, .int .i64 0, .int .i64 0, .int .i64 0])).run Try.prog w = .ok (.bool e) w) ∧ n ≤ c := by
 obtain ⟨A, c, hv, hns, -, -⟩ := h.shape
 rw [bare_len] at hv
 obtain ⟨b, off, rfl, _, hc⟩ := hns.at_ (by rw [bare_len]; omega)
 have hcp := hc p (by rw [bare_len]; exact hp)
 have hw := hns.wf (i := p) (by rw [bare_len]; exact hp)
 rw [bare_at hp] at hcp hw
 obtain ⟨-, h2, h3, h4, h5⟩ := hcp
 have hcap := hns.cap
 rw [bare_len] at hcap
 exact ⟨b, off, c, by rw [hv, hn], h2, h3, h4, h5, fun w => by rw [← he]; exact eql_four _ hw w, by omega⟩
set_option maxHeartbeats 6400000 in
theorem pshrink_any (A : Option Addr) (c n : Nat) (l : List Nd) (k : Nat) (w : World) (h : Ns w A c l) (hn : l.length = n) (hl : looseB l = true) (hn9 : n ≤ 900000) (hA : A = none → c = 0) (hk : k ≤ n) :
  Calls Try.prog 81 #[.slice A n c, .int .i64 (k : Int)] w (RetSh l k w) := by
 have hcap := h.cap
 rw [hn] at hcap
 have HN := Lib.hid h
 have HL := Lib.hid hn
 have HLL := Lib.hid hl
 have HA := Lib.hid hA
 have q0 : True := trivial
 clear h hn hl hA
 rcases (show k = 0 ∨ ∃ p, k = p + 1 by cases k with | zero => exact .inl rfl | succ p => exact .inr ⟨p, rfl⟩) with rfl | ⟨p, rfl⟩
 ·
  go_enter Try.func81, Try.ntmps81
  go_wp2_with (first
   | (have _t := q0; go_at_call 40; clear _t; go_loud (refine (clone_any _ _ n l _ HN.out HL.out (by omega) HA.out).mono ?_; rintro e w1 ⟨v, rfl, o1, b1⟩; have HO := Lib.hid o1; have HB := Lib.hid b1; clear o1 b1; have q1 := q0; clear q0))
   | (have _t := q1; go_at_call 104; clear _t; go_loud (refine (bared_any _ _ n l _ (HN.out.below HB.out) HL.out (by omega) HLL.out HA.out).mono ?_; rintro e w2 ⟨v2, rfl, o2, b2⟩; have HB2 := Lib.hid b2; clear o2 b2; have q2 := q1; clear q1)))
  go_ret2
  refine ⟨v, l, 0, rfl, HO.out.stays HB2.out, HLL.out, Nat.zero_le _, by rw [den_zero, shr_e], by omega, HB.out.trans (HB2.out.mono HB.out.size)⟩
 ·
  have hpl : p < l.length := by rw [HL.out]; omega
  have hbe := bare_each (loose_fit HLL.out hpl)
  rw [← den_loose HLL.out hpl] at hbe
  have HBE := Lib.hid hbe
  have HPL := Lib.hid hpl
  have i1 : (p : Int) < (n : Int) := by omega
  have t1 : ((p : Int) + 1 == 0) = false := beq_eq_false_iff_ne.2 (by omega)
  rw [show ((p + 1 : Nat) : Int) = (p : Int) + 1 by omega]
  clear hbe hpl
  go_enter Try.func81, Try.ntmps81
  cases hE : (den l (p + 1)).isE with
  | true =>
   have HE := Lib.hid hE
   clear hE
   go_wp2_with (first
    | (have _t := q0; go_at_call 40; clear _t; go_loud (refine (clone_any _ _ n l _ HN.out HL.out (by omega) HA.out).mono ?_; rintro e w1 ⟨v, rfl, o1, b1⟩; have HO := Lib.hid o1; have HB := Lib.hid b1; clear o1 b1; have q1 := q0; clear q0))
    | (have _t := q1; go_at_call 104; clear _t; go_loud (refine (bared_any _ _ n l _ (HN.out.below HB.out) HL.out (by omega) HLL.out HA.out).mono ?_; rintro e w2 ⟨v2, rfl, o2, b2⟩; have HB2 := Lib.hid b2; obtain ⟨b, off, cc, rfl, d2, d3, d4, d5, hq4, j1⟩ := bare_at_cells o2 HL.out HPL.out HBE.out; rw [HE.out] at hq4; clear o2 b2; have q2 := q1; clear q1)))
   go_ret2
   refine ⟨v, l, 0, rfl, HO.out.stays HB2.out, HLL.out, Nat.zero_le _, by rw [den_zero, isE_iff.1 HE.out, shr_e], by omega, HB.out.trans (HB2.out.mono HB.out.size)⟩
  | false =>
   have HE := Lib.hid hE
   have HSP := Lib.hid (SP.start HLL.out HPL.out (isE_no.1 hE))
   clear hE
   go_wp2_with (first
    | (have _t := q0; go_at_call 40; clear _t; go_loud (refine (clone_any _ _ n l _ HN.out HL.out (by omega) HA.out).mono ?_; rintro e w1 ⟨v, rfl, o1, b1⟩; have HO := Lib.hid o1; have HB := Lib.hid b1; clear o1 b1; have q1 := q0; clear q0))
    | (have _t := q1; go_at_call 104; clear _t; go_loud (refine (bared_any _ _ n l _ (HN.out.below HB.out) HL.out (by omega) HLL.out HA.out).mono ?_; rintro e w2 ⟨v2, rfl, o2, b2⟩; have HB2 := Lib.hid b2; have HO2 := Lib.hid o2; obtain ⟨b, off, cc, rfl, d2, d3, d4, d5, hq4, j1⟩ := bare_at_cells o2 HL.out HPL.out HBE.out; rw [HE.out] at hq4; clear o2 b2; have q2 := q1; clear q1)))
   have HT0 := Lib.hid (show Two w w.heap.size v (.slice (some ⟨b, off, none⟩) n cc) l (bareL l) w2 from ⟨HO.out.stays HB2.out, HO2.out.mono HB.out.size, fun k hk e => by have h1 := (HO.out.lt k hk).2; have h2 := (HO2.out.lt k e).1; omega, Nat.le_trans HB.out.size HB2.out.size, HB.out.trans (HB2.out.mono HB.out.size)⟩)
   obtain ⟨u0, hu0⟩ : ∃ u0, u0 = Value.slice (some ⟨b, off, none⟩) n cc := ⟨_, rfl⟩
   rw [← hu0] at HT0 ⊢
   clear hu0 d2 d3 d4 d5 hq4 j1
   go_loopw [6, 7, 1, 8, 9] (fun z1 z2 z3 z4 z5 wr => ∃ (G B : List Nd) (r : Nat) (v u s8 s9 : Value), v = z1 ∧ u = z2 ∧ z3 = .int .i64 ((r : Int) + 1) ∧ z4 = s8 ∧ z5 = s9 ∧ Two w w.heap.size v u G B wr ∧ SP l (shrT (den l (p + 1))) G B r) (fun z1 _ _ _ _ _ => n + 2000 - lenOf z1)
   case atStart => exact ⟨l, bareL l, p, _, _, _, _, rfl, rfl, rfl, rfl, rfl, HT0.out, HSP.out⟩
   case round =>
    obtain ⟨G, B, r, v', u', s8, s9, rfl, rfl, rfl, rfl, rfl, htw, hsp⟩ := hrel
    have HTW := Lib.hid htw
    have HSQ := Lib.hid hsp
    obtain ⟨hss, hlk, hbar, hlg⟩ := id hsp
    obtain ⟨a1, a2, a3, a4, a5⟩ := id hss
    have hlen := hss.len
    rw [HL.out] at hlen
    have hgl : G.length = B.length := hlk.1
    obtain ⟨A1, c1, hv1, hn1, -, -⟩ := htw.one.shape
    obtain ⟨A2, c2, hv2, hn2, -, -⟩ := htw.two.shape
    obtain ⟨bn, hbn⟩ : ∃ bn, bn = B.length := ⟨_, rfl⟩
    rw [hgl, ← hbn] at hv1
    rw [← hbn] at hv2 hlen a2
    subst hv1
    subst hv2
    have HBN := Lib.hid hbn
    have hhb := holB_den hbar a1 (p := r) (by rw [← hbn]; exact a2) a3
    have hfx := loose_fit a1 (i := r) (by rw [← hbn]; exact a2)
    obtain ⟨b2, off2, rfl, hb2, hc2⟩ := hn2.at_ (by omega)
    obtain ⟨e1, e2, e3, e4, e5⟩ := hc2 r (by omega)
    have hcap2 := hn2.cap
    rw [← hbn] at hcap2
    obtain ⟨x, hx⟩ : ∃ x, x = at_ B r := ⟨_, rfl⟩
    rw [← hx] at e1 e2 e3 e4 e5 hhb hfx
    have HX := Lib.hid hx
    have HFX := Lib.hid hfx
    have HA1 := Lib.hid a1
    have HN2 := Lib.hid hn2
    have HHB := Lib.hid hhb
    have HA3 := Lib.hid a3
    have HA4 := Lib.hid a4
    have HLK := Lib.hid hlk
    have HLG := Lib.hid hlg
    have i2 : (r : Int) < (bn : Int) := by omega
    clear hx hfx a1 a3 a4 a5 hn1 hn2 hhb hlk hlg hbar hss hsp htw hc2 hb2 hgl hbn
    cases hh : holB B x with
    | false =>
     have HH := Lib.hid hh
     have HN := Lib.hid (halfN_no hh)
     clear hh
     go_wp2_with (go_at_call 105; go_loud (refine (inner_any _ _ bn B x _ HN2.out HBN.out.symm (by omega) HA1.out HFX.out).mono ?_; rintro e w3 ⟨rfl, b3⟩; have HB3 := Lib.hid b3; clear b3; rw [HH.out, HN.out]))
     go_ret2
     have htw := (HTW.out.step HB3.out).alloc (.cells #[.int .i64 nd0.lv, .int .i64 nd0.a, .int .i64 nd0.b, .int .i64 nd0.c, .int .i64 nd0.d] 66)
     have hgl := HLK.out.1
     have hbn := HBN.out
     have hll := HL.out
     refine ⟨.slice A1 bn c1, G, r + 1, rfl, htw.one, HLG.out, by omega, ?_, by omega, htw.below⟩
     rw [like_den HLK.out, ← HA4.out, shr_done (by rw [← HHB.out]; exact HH.out)]
    | true =>
     have HH := Lib.hid hh
     have HN := Lib.hid (halfN_yes hh)
     clear hh
     obtain ⟨y, hy⟩ : ∃ y, y = innN B x := ⟨_, rfl⟩
     rw [← hy] at HN
     have HY := Lib.hid hy
     clear hy
     go_wp2_with (go_at_call 105; go_loud (refine (inner_any _ _ bn B x _ HN2.out HBN.out.symm (by omega) HA1.out HFX.out).mono ?_; rintro e w3 ⟨rfl, b3⟩; have HB3 := Lib.hid b3; clear b3; rw [HH.out, HN.out]))
     -- the region
     have hTV := (HTW.out.step HB3.out).alloc (.cells #[.int .i64 y.lv, .int .i64 y.a, .int .i64 y.b, .int .i64 y.c, .int .i64 y.d] 66)
     have hbx := NdBox.new w3 y
     have hwy := Lib.hid (show y.wf from by
      rw [HY.out, HX.out]
      have h1 := HSQ.out.1
      have h2 : holT (den B (r + 1)) = true := by rw [← HHB.out]; exact HH.out
      obtain ⟨k1, k2⟩ := hol_lv h1.1 h1.2.1 h2
      exact fit_wf (inn_step h1.1 h1.2.1 k1 k2).1 (by rw [← HBN.out]; omega))
     have hx1 : (Value.slice A1 bn c1).ownBlock ≠ some w3.heap.size := fun e => by have := (HTW.out.step HB3.out).one.lt _ e; omega
     have hx2 : (Value.slice (some ⟨b2, off2, none⟩) bn c2).ownBlock ≠ some w3.heap.size := fun e => by have := (HTW.out.step HB3.out).two.lt _ e; omega
     obtain ⟨gx, hgx⟩ : ∃ gx, gx = w3.heap.size := ⟨_, rfl⟩
     rw [← hgx] at hbx hx1 hx2 ⊢
     have XXone := Lib.hid hx1
     have XXtwo := Lib.hid hx2
     generalize hVV : World.alloc _ _ = V at *
     clear hVV hgx hx1 hx2 e1 e2 e3 e4 e5
     have TV := Lib.hid hTV
     have SV := Lib.hid hbx
     clear hTV hbx
     go_cut [6, 7] (fun s6 s7 wx => Two w w.heap.size s6 s7 (G ++ [y]) (B ++ [y]) wx)
     case first =>
      refine wp_region_noPanic ?_
      refine wp_region_held (S := fun w' => w'.cell? ⟨gx, 0, none⟩ = some (.int .i64 y.lv) ∧ w'.cell? ⟨gx, 1, none⟩ = some (.int .i64 y.a) ∧ w'.cell? ⟨gx, 2, none⟩ = some (.int .i64 y.b) ∧ w'.cell? ⟨gx, 3, none⟩ = some (.int .i64 y.c) ∧ w'.cell? ⟨gx, 4, none⟩ = some (.int .i64 y.d)) (by kernel_rfl) ?_
      obtain ⟨W0, hW0⟩ : ∃ W0 : World, W0 = V.drew := ⟨_, rfl⟩
      have T0 := Lib.hid (show Two w w.heap.size (Value.slice A1 bn c1) (Value.slice (some ⟨b2, off2, none⟩) bn c2) G B W0 by rw [hW0]; exact ⟨TV.out.one, TV.out.two, TV.out.apart, TV.out.low, TV.out.below.drew⟩)
      have hS0' := Lib.hid (show NdBox W0 gx y by rw [hW0]; exact SV.out)
      have hS0 : NdAt W0 gx 0 y := hS0'.out.at_
      change wpAnyH _ _ _ _ _ _ _ _ V.drew
      rw [← hW0]
      clear hW0
      refine wpAnyH_take (i := 0) (v := ?_) rfl (by kernel_rfl) (by kernel_rfl) (by kernel_rfl) (fun _ _ _ h => h) (Or.inl ⟨by rfl, ?_⟩) hS0 ?_
      rotate_left
      ·
       rintro w' ⟨s1, s2, s3, s4, s5⟩
       go_simp
       first | done | with_reducible rfl | rfl
      simp only [Act.put, LA]
      refine wpAnyH_take (i := 1) (v := ?_) rfl (by kernel_rfl) (by kernel_rfl) (by kernel_rfl) (fun _ _ _ h => h) (Or.inl ⟨by rfl, ?_⟩) hS0 ?_
      rotate_left
      ·
       rintro w' ⟨s1, s2, s3, s4, s5⟩
       go_simp
       first | done | with_reducible rfl | rfl
      simp only [Act.put, LA]
      refine wpAnyH_take (i := 4) (v := ?_) rfl (by kernel_rfl) (by kernel_rfl) (by kernel_rfl) (fun _ _ _ h => h) (Or.inl ⟨by rfl, ?_⟩) hS0 ?_
      rotate_left
      ·
       rintro w' ⟨s1, s2, s3, s4, s5⟩
       go_simp
       first | done | with_reducible rfl | rfl
      simp only [Act.put, LA]
      refine wpAnyH_take (i := 5) (v := ?_) rfl (by kernel_rfl) (by kernel_rfl) (by kernel_rfl) (fun _ _ _ h => h) (Or.inl ⟨by rfl, ?_⟩) hS0 ?_
      rotate_left
      ·
       rintro w' ⟨s1, s2, s3, s4, s5⟩
       go_simp
       first | done | with_reducible rfl | rfl
      simp only [Act.put, LA]
      have hS0 := hS0'
      refine wpAnyH_ready (rs := [2, 6]) (by kernel_rfl) (by simp) (AllReadyH.cons rfl (fun K hK => ?_) (AllReadyH.cons rfl (fun K hK => ?_) AllReadyH.nil))
      ·
       go_simp
       obtain ⟨g2, hg2⟩ : ∃ g, g = W0.heap.size := ⟨_, rfl⟩
       obtain ⟨W1, hW1⟩ : ∃ Z : World, Z = W0.alloc (.cells #[.int .i64 y.lv, .int .i64 y.a, .int .i64 y.b, .int .i64 y.c, .int .i64 y.d] 66) := ⟨_, rfl⟩
       have T1 := Lib.hid (show Two _ _ _ _ _ _ W1 by rw [hW1]; exact T0.out.alloc _)
       have hS1 := Lib.hid (hS0.out.stay (w' := W1) (by rw [hW1]; exact Below.heap_alloc _ _ _ hS0.out.lt))
       have ns2 := Lib.hid (show Ns W1 (some ⟨g2, 0, none⟩) 1 [y] by rw [hW1]; exact ns_lit1 W0 g2 y hwy.out hg2.symm)
       have d2 := Lib.hid (show (∀ k, (Value.slice A1 bn c1).ownBlock = some k → k ≠ g2) ∧ (∀ k, (Value.slice (some ⟨b2, off2, none⟩) bn c2).ownBlock = some k → k ≠ g2) from ⟨fun k hk => by have := (T0.out.one.lt k hk).2; omega, fun k hk => by have := (T0.out.two.lt k hk).2; omega⟩)
       rw [← hg2, ← hW1]
       clear hg2 hW1
       refine hK.out _ _ hS1.out.at_ (fun _ => ?_)
       clear hK K
       refine wpAnyH_ready (rs := [3, 6]) (by kernel_rfl) (by simp) (AllReadyH.cons rfl (fun K hK => ?_) (AllReadyH.cons rfl (fun K hK => ?_) AllReadyH.nil))
       ·
        rw [if_pos (by rfl)]
        refine oper_append_nodes (.tmp 41) (.tmp 43) rfl w.heap.size (Value.slice A1 bn c1) G [y] (some ⟨g2, 0, none⟩) 1 1 rfl rfl T1.out.one ns2.out rfl (fun e => by cases e) (by have := HBN.out; have := HLK.out.1; omega) T1.out.low ?_
        intro v3 W2 ho hgw hat
        simp only [Act.put, LA]
        have T2 := Lib.hid (T1.out.app1 ho hgw hat)
        have hS2 := Lib.hid (hS1.out.stay (w' := W2) (hgw.block gx hS1.out.lt (fun e => absurd e.symm (XXone.out))))
        refine hK.out _ _ hS2.out.at_ (fun _ => ?_)
        clear hK K ho hgw hat
        refine wpAnyH_ready (rs := [6]) (by kernel_rfl) (by simp) (AllReadyH.cons rfl (fun K hK => ?_) AllReadyH.nil)
        go_simp
        obtain ⟨g6, hg6⟩ : ∃ g, g = W2.heap.size := ⟨_, rfl⟩
        obtain ⟨W3, hW3⟩ : ∃ Z : World, Z = W2.alloc (.cells #[.int .i64 y.lv, .int .i64 y.a, .int .i64 y.b, .int .i64 y.c, .int .i64 y.d] 66) := ⟨_, rfl⟩
        have T3 := Lib.hid (show Two _ _ _ _ _ _ W3 by rw [hW3]; exact T2.out.alloc _)
        have hS3 := Lib.hid (hS2.out.stay (w' := W3) (by rw [hW3]; exact Below.heap_alloc _ _ _ hS2.out.lt))
        have ns6 := Lib.hid (show Ns W3 (some ⟨g6, 0, none⟩) 1 [y] by rw [hW3]; exact ns_lit1 W2 g6 y hwy.out hg6.symm)
        have d6 := Lib.hid (show (∀ k, v3.ownBlock = some k → k ≠ g6) ∧ (∀ k, (Value.slice (some ⟨b2, off2, none⟩) bn c2).ownBlock = some k → k ≠ g6) from ⟨fun k hk => by have := (T2.out.one.lt k hk).2; omega, fun k hk => by have := (T2.out.two.lt k hk).2; omega⟩)
        rw [← hg6, ← hW3]
        clear hg6 hW3
        refine hK.out _ _ hS3.out.at_ (fun _ => ?_)
        clear hK K
        refine wpAnyH_ready (rs := [7]) (by kernel_rfl) (by simp) (AllReadyH.cons rfl (fun K hK => ?_) AllReadyH.nil)
        rw [if_pos (by rfl)]
        refine oper_append_nodes (.tmp 45) (.tmp 47) rfl w.heap.size (Value.slice (some ⟨b2, off2, none⟩) bn c2) B [y] (some ⟨g6, 0, none⟩) 1 1 rfl rfl T3.out.two ns6.out rfl (fun e => by cases e) (by have := HBN.out; have := HLK.out.1; omega) T3.out.low ?_
        intro u7 W4 ho hgw hat
        simp only [Act.put, LA]
        have T4 := Lib.hid (T3.out.app2 ho hgw hat)
        have hS4 := Lib.hid (hS3.out.stay (w' := W4) (hgw.block gx hS3.out.lt (fun e => absurd e.symm (XXtwo.out))))
        refine hK.out _ _ hS4.out.at_ (fun _ => ?_)
        clear hK K ho hgw hat
        refine wpAnyH_take (i := 8) (v := ?_) rfl (by kernel_rfl) (by kernel_rfl) (by kernel_rfl) (fun _ _ _ h => h) (Or.inl ⟨by rfl, ?_⟩) hS4.out.at_ ?_
        rotate_left
        ·
         rintro w' ⟨s1, s2, s3, s4, s5⟩
         go_simp
         first | done | with_reducible rfl | rfl
        simp only [Act.put, LA]
        refine wpAnyH_take (i := 9) (v := ?_) rfl (by kernel_rfl) (by kernel_rfl) (by kernel_rfl) (fun _ _ _ h => h) (Or.inl ⟨by rfl, ?_⟩) hS4.out.at_ ?_
        rotate_left
        ·
         rintro w' ⟨s1, s2, s3, s4, s5⟩
         go_simp
         first | done | with_reducible rfl | rfl
        simp only [Act.put, LA]
        refine wpAnyH_done (by kernel_rfl) ?_ _
        refine NoPanic.normal ?_
        go_wp2_with fail
        go_meet
        exact T4.out
       ·
        go_simp
        obtain ⟨g6, hg6⟩ : ∃ g, g = W1.heap.size := ⟨_, rfl⟩
        obtain ⟨W3, hW3⟩ : ∃ Z : World, Z = W1.alloc (.cells #[.int .i64 y.lv, .int .i64 y.a, .int .i64 y.b, .int .i64 y.c, .int .i64 y.d] 66) := ⟨_, rfl⟩
        have T3 := Lib.hid (show Two _ _ _ _ _ _ W3 by rw [hW3]; exact T1.out.alloc _)
        have hS3 := Lib.hid (hS1.out.stay (w' := W3) (by rw [hW3]; exact Below.heap_alloc _ _ _ hS1.out.lt))
        have ns6 := Lib.hid (show Ns W3 (some ⟨g6, 0, none⟩) 1 [y] by rw [hW3]; exact ns_lit1 W1 g6 y hwy.out hg6.symm)
        have d6 := Lib.hid (show (∀ k, (Value.slice A1 bn c1).ownBlock = some k → k ≠ g6) ∧ (∀ k, (Value.slice (some ⟨b2, off2, none⟩) bn c2).ownBlock = some k → k ≠ g6) from ⟨fun k hk => by have := (T1.out.one.lt k hk).2; omega, fun k hk => by have := (T1.out.two.lt k hk).2; omega⟩)
        have ns2 := Lib.hid (show Ns W3 (some ⟨g2, 0, none⟩) 1 [y] by rw [hW3]; exact ns2.out.below ((Below.refl _ _).alloc (Nat.le_refl _) _))
        rw [← hg6, ← hW3]
        clear hg6 hW3
        refine hK.out _ _ hS3.out.at_ (fun _ => ?_)
        clear hK K
        refine wpAnyH_ready (rs := [3]) (by kernel_rfl) (by simp) (AllReadyH.cons rfl (fun K hK => ?_) AllReadyH.nil)
        rw [if_pos (by rfl)]
        refine oper_append_nodes (.tmp 41) (.tmp 43) rfl w.heap.size (Value.slice A1 bn c1) G [y] (some ⟨g2, 0, none⟩) 1 1 rfl rfl T3.out.one ns2.out rfl (fun e => by cases e) (by have := HBN.out; have := HLK.out.1; omega) T3.out.low ?_
        intro v3 W4 ho hgw hat
        simp only [Act.put, LA]
        have T4 := Lib.hid (T3.out.app1 ho hgw hat)
        have hS4 := Lib.hid (hS3.out.stay (w' := W4) (hgw.block gx hS3.out.lt (fun e => absurd e.symm (XXone.out))))
        have ns6 := Lib.hid (ns6.out.gbr hgw (fun a ea e => by cases ea; exact (d6.out.1 _ e.symm) rfl))
        refine hK.out _ _ hS4.out.at_ (fun _ => ?_)
        clear hK K ho hgw hat
        refine wpAnyH_ready (rs := [7]) (by kernel_rfl) (by simp) (AllReadyH.cons rfl (fun K hK => ?_) AllReadyH.nil)
        rw [if_pos (by rfl)]
        refine oper_append_nodes (.tmp 45) (.tmp 47) rfl w.heap.size (Value.slice (some ⟨b2, off2, none⟩) bn c2) B [y] (some ⟨g6, 0, none⟩) 1 1 rfl rfl T4.out.two ns6.out rfl (fun e => by cases e) (by have := HBN.out; have := HLK.out.1; omega) T4.out.low ?_
        intro u7 W5 ho hgw hat
        simp only [Act.put, LA]
        have T5 := Lib.hid (T4.out.app2 ho hgw hat)
        have hS5 := Lib.hid (hS4.out.stay (w' := W5) (hgw.block gx hS4.out.lt (fun e => absurd e.symm (XXtwo.out))))
        refine hK.out _ _ hS5.out.at_ (fun _ => ?_)
        clear hK K ho hgw hat
        refine wpAnyH_take (i := 8) (v := ?_) rfl (by kernel_rfl) (by kernel_rfl) (by kernel_rfl) (fun _ _ _ h => h) (Or.inl ⟨by rfl, ?_⟩) hS5.out.at_ ?_
        rotate_left
        ·
         rintro w' ⟨s1, s2, s3, s4, s5⟩
         go_simp
         first | done | with_reducible rfl | rfl
        simp only [Act.put, LA]
        refine wpAnyH_take (i := 9) (v := ?_) rfl (by kernel_rfl) (by kernel_rfl) (by kernel_rfl) (fun _ _ _ h => h) (Or.inl ⟨by rfl, ?_⟩) hS5.out.at_ ?_
        rotate_left
        ·
         rintro w' ⟨s1, s2, s3, s4, s5⟩
         go_simp
         first | done | with_reducible rfl | rfl
        simp only [Act.put, LA]
        refine wpAnyH_done (by kernel_rfl) ?_ _
        refine NoPanic.normal ?_
        go_wp2_with fail
        go_meet
        exact T5.out
      ·
       go_simp
       obtain ⟨g6, hg6⟩ : ∃ g, g = W0.heap.size := ⟨_, rfl⟩
       obtain ⟨W1, hW1⟩ : ∃ Z : World, Z = W0.alloc (.cells #[.int .i64 y.lv, .int .i64 y.a, .int .i64 y.b, .int .i64 y.c, .int .i64 y.d] 66) := ⟨_, rfl⟩
       have T1 := Lib.hid (show Two _ _ _ _ _ _ W1 by rw [hW1]; exact T0.out.alloc _)
       have hS1 := Lib.hid (hS0.out.stay (w' := W1) (by rw [hW1]; exact Below.heap_alloc _ _ _ hS0.out.lt))
       have ns6 := Lib.hid (show Ns W1 (some ⟨g6, 0, none⟩) 1 [y] by rw [hW1]; exact ns_lit1 W0 g6 y hwy.out hg6.symm)
       have d6 := Lib.hid (show (∀ k, (Value.slice A1 bn c1).ownBlock = some k → k ≠ g6) ∧ (∀ k, (Value.slice (some ⟨b2, off2, none⟩) bn c2).ownBlock = some k → k ≠ g6) from ⟨fun k hk => by have := (T0.out.one.lt k hk).2; omega, fun k hk => by have := (T0.out.two.lt k hk).2; omega⟩)
       rw [← hg6, ← hW1]
       clear hg6 hW1
       refine hK.out _ _ hS1.out.at_ (fun _ => ?_)
       clear hK K
       refine wpAnyH_ready (rs := [2]) (by kernel_rfl) (by simp) (AllReadyH.cons rfl (fun K hK => ?_) AllReadyH.nil)
       go_simp
       obtain ⟨g2, hg2⟩ : ∃ g, g = W1.heap.size := ⟨_, rfl⟩
       obtain ⟨W3, hW3⟩ : ∃ Z : World, Z = W1.alloc (.cells #[.int .i64 y.lv, .int .i64 y.a, .int .i64 y.b, .int .i64 y.c, .int .i64 y.d] 66) := ⟨_, rfl⟩
       have T3 := Lib.hid (show Two _ _ _ _ _ _ W3 by rw [hW3]; exact T1.out.alloc _)
       have hS3 := Lib.hid (hS1.out.stay (w' := W3) (by rw [hW3]; exact Below.heap_alloc _ _ _ hS1.out.lt))
       have ns2 := Lib.hid (show Ns W3 (some ⟨g2, 0, none⟩) 1 [y] by rw [hW3]; exact ns_lit1 W1 g2 y hwy.out hg2.symm)
       have d2 := Lib.hid (show (∀ k, (Value.slice A1 bn c1).ownBlock = some k → k ≠ g2) ∧ (∀ k, (Value.slice (some ⟨b2, off2, none⟩) bn c2).ownBlock = some k → k ≠ g2) from ⟨fun k hk => by have := (T1.out.one.lt k hk).2; omega, fun k hk => by have := (T1.out.two.lt k hk).2; omega⟩)
       have ns6 := Lib.hid (show Ns W3 (some ⟨g6, 0, none⟩) 1 [y] by rw [hW3]; exact ns6.out.below ((Below.refl _ _).alloc (Nat.le_refl _) _))
       rw [← hg2, ← hW3]
       clear hg2 hW3
       refine hK.out _ _ hS3.out.at_ (fun _ => ?_)
       clear hK K
       refine wpAnyH_ready (rs := [3]) (by kernel_rfl) (by simp) (AllReadyH.cons rfl (fun K hK => ?_) AllReadyH.nil)
       rw [if_pos (by rfl)]
       refine oper_append_nodes (.tmp 41) (.tmp 43) rfl w.heap.size (Value.slice A1 bn c1) G [y] (some ⟨g2, 0, none⟩) 1 1 rfl rfl T3.out.one ns2.out rfl (fun e => by cases e) (by have := HBN.out; have := HLK.out.1; omega) T3.out.low ?_
       intro v3 W4 ho hgw hat
       simp only [Act.put, LA]
       have T4 := Lib.hid (T3.out.app1 ho hgw hat)
       have hS4 := Lib.hid (hS3.out.stay (w' := W4) (hgw.block gx hS3.out.lt (fun e => absurd e.symm (XXone.out))))
       have ns6 := Lib.hid (ns6.out.gbr hgw (fun a ea e => by cases ea; exact (d6.out.1 _ e.symm) rfl))
       refine hK.out _ _ hS4.out.at_ (fun _ => ?_)
       clear hK K ho hgw hat
       refine wpAnyH_ready (rs := [7]) (by kernel_rfl) (by simp) (AllReadyH.cons rfl (fun K hK => ?_) AllReadyH.nil)
       rw [if_pos (by rfl)]
       refine oper_append_nodes (.tmp 45) (.tmp 47) rfl w.heap.size (Value.slice (some ⟨b2, off2, none⟩) bn c2) B [y] (some ⟨g6, 0, none⟩) 1 1 rfl rfl T4.out.two ns6.out rfl (fun e => by cases e) (by have := HBN.out; have := HLK.out.1; omega) T4.out.low ?_
       intro u7 W5 ho hgw hat
       simp only [Act.put, LA]
       have T5 := Lib.hid (T4.out.app2 ho hgw hat)
       have hS5 := Lib.hid (hS4.out.stay (w' := W5) (hgw.block gx hS4.out.lt (fun e => absurd e.symm (XXtwo.out))))
       refine hK.out _ _ hS5.out.at_ (fun _ => ?_)
       clear hK K ho hgw hat
       refine wpAnyH_take (i := 8) (v := ?_) rfl (by kernel_rfl) (by kernel_rfl) (by kernel_rfl) (fun _ _ _ h => h) (Or.inl ⟨by rfl, ?_⟩) hS5.out.at_ ?_
       rotate_left
       ·
        rintro w' ⟨s1, s2, s3, s4, s5⟩
        go_simp
        first | done | with_reducible rfl | rfl
       simp only [Act.put, LA]
       refine wpAnyH_take (i := 9) (v := ?_) rfl (by kernel_rfl) (by kernel_rfl) (by kernel_rfl) (fun _ _ _ h => h) (Or.inl ⟨by rfl, ?_⟩) hS5.out.at_ ?_
       rotate_left
       ·
        rintro w' ⟨s1, s2, s3, s4, s5⟩
        go_simp
        first | done | with_reducible rfl | rfl
       simp only [Act.put, LA]
       refine wpAnyH_done (by kernel_rfl) ?_ _
       refine NoPanic.normal ?_
       go_wp2_with fail
       go_meet
       exact T5.out
     case rest =>
      have HCUT := Lib.hid hcut
      obtain ⟨A7, c7, hv7, -, -, -⟩ := hcut.one.shape
      have HNX := Lib.hid (HSQ.out.next (by rw [← HHB.out]; exact HH.out))
      rw [← HX.out, ← HY.out] at HNX
      have hgl := HLK.out.1
      have hbn := HBN.out
      have HLN := Lib.hid (show (G ++ [y]).length = bn + 1 by rw [List.length_append, hgl, ← hbn]; rfl)
      rw [HLN.out] at hv7
      subst hv7
      clear hcut hgl hbn
      go_wp2_with fail
      go_roundw
      case rel =>
       refine ⟨G ++ [y], B ++ [y], B.length, _, _, _, _, rfl, rfl, ?_, rfl, rfl, HCUT.out, HNX.out⟩
       rw [← HBN.out]
      case measure =>
       simp [lenOf]
       omega
end Go.Proofs.Ytlnmcilcifbcnaa

namespace Go.Proofs.Ytlnmcilcifbcnaa
open Go.RowKit Nds Go.Maps
theorem Try.intLaw : Keyed Try.prog 3 := int_keyed Try.underlying3
theorem key_i (n : Int) (h : in64 n) : ∃ kl, keyOf Try.prog 3 (.int .i64 n) = some kl := ⟨_, keyOf_int_mk Try.underlying3 (WalkArith.wf_i64 h)⟩
theorem Try.zeroI (w : World) : (zeroValue 3).run Try.prog w = .ok (.int .i64 0) w := by kernel_rfl
def KM (w : World) (b : Nat) (out : List Nd) : Prop :=
 ∃ es clock, w.heap[b]? = some (.map es clock) ∧ (∀ e ∈ es.toList, ∃ i, i < out.length ∧ e.key = ndv (at_ out i) ∧ e.val = .int .i64 ((i : Int) + 1)) ∧ ∀ i, i < out.length → ∃ e ∈ es.toList, e.key = ndv (at_ out i)
theorem KM.lt {w : World} {b : Nat} {out : List Nd} (h : KM w b out) : b < w.heap.size := by
 obtain ⟨es, clock, hb, _⟩ := h
 exact (Array.getElem?_eq_some_iff.1 hb).1
theorem KM.stay {w w' : World} {b : Nat} {out : List Nd} (h : KM w b out) (hb : w'.heap[b]? = w.heap[b]?) : KM w' b out := by
 obtain ⟨es, clock, hh, r⟩ := h
 exact ⟨es, clock, hb.trans hh, r⟩
theorem KM.keys {out : List Nd} {es : Array MapEntry} (hS : ∀ y ∈ out, y.wf) (h : ∀ e ∈ es.toList, ∃ i, i < out.length ∧ e.key = ndv (at_ out i) ∧ e.val = .int .i64 ((i : Int) + 1)) : ∀ e ∈ es.toList, ∃ l, keyOf Try.prog 66 e.key = some l := by
 intro e he
 obtain ⟨i, hi, hk, _⟩ := h e he
 rw [hk]
 exact key_node _ (hS _ (at_mem hi))
theorem KM.lookK {w : World} {b : Nat} {out : List Nd} (h : KM w b out) (hg : GoodL out) (hS : ∀ y ∈ out, y.wf) (x : Nd) (hx : x.wf) :
  (Instr.lookup 129 (.map (some b)) (ndv x) false).run Try.prog w = .ok (.int .i64 ((fnd out x : Nat) : Int)) w := by
 obtain ⟨es, clock, hb, h1, h2⟩ := h
 obtain ⟨kl, hkey⟩ := key_node x hx
 rcases Try.nodeLaw.find w hkey es.toList (KM.keys hS h1) with ⟨f1, f2⟩ | ⟨j, e0, f1, f2, f3⟩
 ·
  have hn : fnd out x = 0 := fnd_none fun i hi e => by
   obtain ⟨e0, he, hk⟩ := h2 i hi
   rw [e] at hk
   exact f2 e0 he hk
  rw [hn]
  simp [Instr.lookup, run_underlying Try.underlying129, MapKept.run_getObj_map hb, Try.nodeLaw.check w _ hkey, f1, Try.zeroI, Result.andThen]
 ·
  obtain ⟨i, hi, hk, hv⟩ := h1 e0 (List.mem_of_getElem? f2)
  rw [f3] at hk
  have e := ndv_inj hk
  rw [e, good_fnd hg hi]
  rw [e] at hkey f1
  simp [Instr.lookup, run_underlying Try.underlying129, MapKept.run_getObj_map hb, Try.nodeLaw.check w _ hkey, f1, hv, Result.andThen]
theorem KM.putK {w : World} {b : Nat} {out : List Nd} (h : KM w b out) (hS : ∀ y ∈ out, y.wf) (x : Nd) (hx : x.wf) (hf : fnd out x = 0) :
  ∃ w', (Instr.mapUpdate 129 (.map (some b)) (ndv x) (.int .i64 ((out.length : Int) + 1))).run Try.prog w = .ok () w' ∧ KM w' b (out ++ [x]) ∧ w.grownBy w' (some b) := by
 obtain ⟨es, clock, hb, h1, h2⟩ := h
 obtain ⟨kl, hkey⟩ := key_node x hx
 have hno : ∀ j, j < out.length → at_ out j ≠ x := by
  rcases fnd_cases out x with ⟨_, h⟩ | ⟨i, _, _, h⟩
  ·
   exact h
  ·
   omega
 rcases Try.nodeLaw.find w hkey es.toList (KM.keys hS h1) with ⟨f1, f2⟩ | ⟨j, e0, f1, f2, f3⟩
 ·
  refine ⟨ChangeMaps.setBlock w b (.map (es.push ⟨ndv x, .int .i64 ((out.length : Int) + 1), clock⟩) (clock + 1)), ?_, ⟨_, _, ChangeMaps.heap_setBlock_same hb _, ?_, ?_⟩, ⟨rfl, rfl, rfl, by simp [ChangeMaps.setBlock], fun i _ hi => ChangeMaps.heap_setBlock_other hb _ (fun e => hi (by rw [e]))⟩⟩
  ·
   simp [Instr.mapUpdate, run_underlying Try.underlying129, MapKept.run_getObj_map hb, Try.nodeLaw.check w false hkey, f1, MapKept.run_setObj_map _ hb, Result.andThen, ChangeMaps.setBlock]
  ·
   intro e he
   simp only [Array.toList_push, List.mem_append, List.mem_singleton] at he
   rcases he with he | rfl
   ·
    obtain ⟨i, hi, hk, hv⟩ := h1 e he
    exact ⟨i, by simp; omega, by rw [at_app hi]; exact hk, hv⟩
   ·
    exact ⟨out.length, by simp, by rw [at_last], rfl⟩
  ·
   intro i hi
   simp only [List.length_append, List.length_cons, List.length_nil] at hi
   simp only [Array.toList_push, List.mem_append, List.mem_singleton]
   rcases Nat.lt_or_ge i out.length with h3 | h3
   ·
    obtain ⟨e, he, hk⟩ := h2 i h3
    exact ⟨e, .inl he, by rw [at_app h3]; exact hk⟩
   ·
    exact ⟨_, .inr rfl, by rw [show i = out.length by omega, at_last]⟩
 ·
  obtain ⟨i, hi, hk, _⟩ := h1 e0 (List.mem_of_getElem? f2)
  rw [f3] at hk
  exact absurd (ndv_inj hk).symm (hno i hi)
theorem wpList_store_km (w : World) {ops : Array Oper} {rest : List Oper} {o : Oper} {a : Act} {Q : Exit → Act → World → Prop}
  (hg : o.guard = none) (m x v : Operand) (hop : o.op = Op.mapUpdate 129 m x v) (b : Nat) (out : List Nd) (y : Nd) (u : Int)
  (hm : a.eval m = .map (some b)) (hx : a.eval x = ndv y) (hv : a.eval v = .int .i64 u) (hu : u = (out.length : Int) + 1) (hown : KM w b out) (hS : ∀ y ∈ out, y.wf) (hy : y.wf) (hf : fnd out y = 0)
  (hK : ∀ w', KM w' b (out ++ [y]) → w.grownBy w' (some b) → wpList Try.prog ops Q rest (a.put o.dst undef) w') :
  wpList Try.prog ops Q (o :: rest) a w := by
 subst hu
 refine wpList_plain hg fun K' hK' => ?_
 obtain ⟨w', hrun, r1, r2⟩ := hown.putK hS y hy hf
 unfold Oper.wp
 simp [execOp, hop, hm, hx, hv, hrun, Result.andThen]
 exact hK' _ _ (hK w' r1 r2)
end Go.Proofs.Ytlnmcilcifbcnaa

namespace Go.Proofs.Ytlnmcilcifbcnaa
open Go.RowKit Nds Go.Maps
def MM (l : List Nd) (w : World) (b : Nat) (out : List Nd) : Prop :=
 ∃ es clock, w.heap[b]? = some (.map es clock) ∧ (∀ e ∈ es.toList, ∃ (n : Nat) (k : Int), n ≤ l.length ∧ e.key = .int .i64 (n : Int) ∧ e.val = .int .i64 k ∧ NumT out (den l n) k) ∧ ∃ e ∈ es.toList, e.key = .int .i64 0
theorem MM.lt {l : List Nd} {w : World} {b : Nat} {out : List Nd} (h : MM l w b out) : b < w.heap.size := by
 obtain ⟨es, clock, hb, _⟩ := h
 exact (Array.getElem?_eq_some_iff.1 hb).1
theorem MM.stay {l : List Nd} {w w' : World} {b : Nat} {out : List Nd} (h : MM l w b out) (hb : w'.heap[b]? = w.heap[b]?) : MM l w' b out := by
 obtain ⟨es, clock, hh, r⟩ := h
 exact ⟨es, clock, hb.trans hh, r⟩
theorem MM.pre {l : List Nd} {w : World} {b : Nat} {out out' : List Nd} (h : MM l w b out) (hp : out <+: out') : MM l w b out' := by
 obtain ⟨es, clock, hh, h1, h2⟩ := h
 refine ⟨es, clock, hh, fun e he => ?_, h2⟩
 obtain ⟨n, k, a1, a2, a3, a4⟩ := h1 e he
 exact ⟨n, k, a1, a2, a3, num_pre hp a4⟩
theorem MM.keys {l out : List Nd} {es : Array MapEntry} (hl : l.length ≤ 1000000) (h : ∀ e ∈ es.toList, ∃ (n : Nat) (k : Int), n ≤ l.length ∧ e.key = .int .i64 (n : Int) ∧ e.val = .int .i64 k ∧ NumT out (den l n) k) : ∀ e ∈ es.toList, ∃ kl, keyOf Try.prog 3 e.key = some kl := by
 intro e he
 obtain ⟨n, k, hn, hk, _⟩ := h e he
 rw [hk]
 exact key_i _ ⟨by omega, by omega⟩
theorem int_inj {a b : Nat} (h : Value.int .i64 (a : Int) = .int .i64 (b : Int)) : a = b := by
 simp only [Value.int.injEq, true_and] at h
 omega
theorem MM.lookM {l : List Nd} {w : World} {b : Nat} {out : List Nd} (h : MM l w b out) (hl : l.length ≤ 1000000) (n : Nat) (hn : n ≤ l.length) :
  (∃ k, (Instr.lookup 131 (.map (some b)) (.int .i64 (n : Int)) true).run Try.prog w = .ok (.tuple #[.int .i64 k, .bool true]) w ∧ NumT out (den l n) k) ∨
  ((Instr.lookup 131 (.map (some b)) (.int .i64 (n : Int)) true).run Try.prog w = .ok (.tuple #[.int .i64 0, .bool false]) w ∧ n ≠ 0) := by
 obtain ⟨es, clock, hb, h1, h2⟩ := h
 obtain ⟨kl, hkey⟩ := key_i (n : Int) ⟨by omega, by omega⟩
 rcases Try.intLaw.find w hkey es.toList (MM.keys hl h1) with ⟨f1, f2⟩ | ⟨j, e0, f1, f2, f3⟩
 ·
  refine .inr ⟨?_, fun e => ?_⟩
  ·
   simp [Instr.lookup, run_underlying Try.underlying131, MapKept.run_getObj_map hb, Try.intLaw.check w _ hkey, f1, Try.zeroI, Result.andThen]
  ·
   subst e
   obtain ⟨e, he, hk⟩ := h2
   exact f2 e he hk
 ·
  obtain ⟨n', k, hi, hk, hv, hnum⟩ := h1 e0 (List.mem_of_getElem? f2)
  rw [f3] at hk
  have e := int_inj hk
  subst e
  refine .inl ⟨k, ?_, hnum⟩
  simp [Instr.lookup, run_underlying Try.underlying131, MapKept.run_getObj_map hb, Try.intLaw.check w _ hkey, f1, hv, Result.andThen]
theorem numT_uniq {out : List Nd} (hg : GoodL out) {t : Tr} {a b : Int} (ha : NumT out t a) (hb : NumT out t b) : a = b := by
 have h1 := enc_memo hg t a ha
 rw [enc_memo hg t b hb] at h1
 exact (congrArg Prod.snd h1).symm
theorem MM.putM {l : List Nd} {w : World} {b : Nat} {out : List Nd} (h : MM l w b out) (hg : GoodL out) (hl : l.length ≤ 1000000) (n : Nat) (hn : n ≤ l.length) {k : Int} (hk : NumT out (den l n) k) :
  ∃ w', (Instr.mapUpdate 131 (.map (some b)) (.int .i64 (n : Int)) (.int .i64 k)).run Try.prog w = .ok () w' ∧ MM l w' b out ∧ w.grownBy w' (some b) ∧ (Instr.lookup 131 (.map (some b)) (.int .i64 (n : Int)) false).run Try.prog w' = .ok (.int .i64 k) w' := by
 obtain ⟨kl, hkey⟩ := key_i (n : Int) ⟨by omega, by omega⟩
 suffices hs : ∃ w', (Instr.mapUpdate 131 (.map (some b)) (.int .i64 (n : Int)) (.int .i64 k)).run Try.prog w = .ok () w' ∧ MM l w' b out ∧ w.grownBy w' (some b) ∧ ∃ es clock, w'.heap[b]? = some (.map es clock) ∧ ∃ e ∈ es.toList, e.key = .int .i64 (n : Int) by
  obtain ⟨w', r1, r2, r3, es, clock, hb', e, he, hke⟩ := hs
  refine ⟨w', r1, r2, r3, ?_⟩
  obtain ⟨es', clock', hb2, h1, _⟩ := r2
  rw [hb'] at hb2
  cases hb2
  rcases Try.intLaw.find w' hkey es.toList (MM.keys hl h1) with ⟨f1, f2⟩ | ⟨j, e0, f1, f2, f3⟩
  ·
   exact absurd hke (f2 e he)
  ·
   obtain ⟨n', k', hi, hk', hv, hnum⟩ := h1 e0 (List.mem_of_getElem? f2)
   rw [f3] at hk'
   have e := int_inj hk'
   subst e
   rw [numT_uniq hg hk hnum]
   simp [Instr.lookup, run_underlying Try.underlying131, MapKept.run_getObj_map hb', Try.intLaw.check w' _ hkey, f1, hv, Result.andThen]
 obtain ⟨es, clock, hb, h1, h2⟩ := h
 rcases Try.intLaw.find w hkey es.toList (MM.keys hl h1) with ⟨f1, f2⟩ | ⟨j, e0, f1, f2, f3⟩
 ·
  refine ⟨ChangeMaps.setBlock w b (.map (es.push ⟨.int .i64 (n : Int), .int .i64 k, clock⟩) (clock + 1)), ?_, ⟨_, _, ChangeMaps.heap_setBlock_same hb _, ?_, ?_⟩, ⟨rfl, rfl, rfl, by simp [ChangeMaps.setBlock], fun i _ hi => ChangeMaps.heap_setBlock_other hb _ (fun e => hi (by rw [e]))⟩, _, _, ChangeMaps.heap_setBlock_same hb _, ?_⟩
  ·
   simp [Instr.mapUpdate, run_underlying Try.underlying131, MapKept.run_getObj_map hb, Try.intLaw.check w false hkey, f1, MapKept.run_setObj_map _ hb, Result.andThen, ChangeMaps.setBlock]
  ·
   intro e he
   simp only [Array.toList_push, List.mem_append, List.mem_singleton] at he
   rcases he with he | rfl
   ·
    exact h1 e he
   ·
    exact ⟨n, k, hn, rfl, rfl, hk⟩
  ·
   obtain ⟨e, he, hke⟩ := h2
   exact ⟨e, by simp only [Array.toList_push, List.mem_append]; exact .inl he, hke⟩
  ·
   exact ⟨_, by simp only [Array.toList_push, List.mem_append, List.mem_singleton]; exact .inr rfl, rfl⟩
 ·
  have hj : es[j]? = some e0 := by simpa using f2
  have hlist : (es.modify j (fun e' => { e' with key := .int .i64 (n : Int), val := .int .i64 k })).toList = es.toList.set j { e0 with key := .int .i64 (n : Int), val := .int .i64 k } := by rw [Array.toList_modify, ChangeMaps.modify_eq_set _ _ _ _ f2]
  have hjl : j < es.toList.length := (List.getElem?_eq_some_iff.1 f2).1
  have hnew : ({ e0 with key := .int .i64 (n : Int), val := .int .i64 k } : MapEntry) ∈ es.toList.set j { e0 with key := .int .i64 (n : Int), val := .int .i64 k } := List.mem_set hjl _
  refine ⟨ChangeMaps.setBlock w b (.map (es.modify j (fun e' => { e' with key := .int .i64 (n : Int), val := .int .i64 k })) clock), ?_, ⟨_, _, ChangeMaps.heap_setBlock_same hb _, ?_, ?_⟩, ⟨rfl, rfl, rfl, by simp [ChangeMaps.setBlock], fun i _ hi => ChangeMaps.heap_setBlock_other hb _ (fun e => hi (by rw [e]))⟩, _, _, ChangeMaps.heap_setBlock_same hb _, ?_⟩
  ·
   simp [Instr.mapUpdate, run_underlying Try.underlying131, MapKept.run_getObj_map hb, Try.intLaw.check w false hkey, f1, hj, f3, Try.intLaw.stays w hkey, MapKept.run_setObj_map _ hb, Result.andThen, ChangeMaps.setBlock]
  ·
   intro e he
   rw [hlist] at he
   rcases List.mem_or_eq_of_mem_set he with he | rfl
   ·
    exact h1 e he
   ·
    exact ⟨n, k, hn, rfl, rfl, hk⟩
  ·
   obtain ⟨e, he, hke⟩ := h2
   rw [hlist]
   by_cases hn0 : n = 0
   ·
    subst hn0
    exact ⟨_, hnew, rfl⟩
   ·
    refine ⟨e, ?_, hke⟩
    obtain ⟨i, hi⟩ := List.mem_iff_getElem?.1 he
    refine List.mem_iff_getElem?.2 ⟨i, ?_⟩
    rw [List.getElem?_set_ne (fun e1 => ?_)]
    ·
     exact hi
    ·
     subst e1
     rw [f2] at hi
     cases hi
     rw [f3] at hke
     exact hn0 (int_inj (b := 0) hke)
  ·
   rw [hlist]
   exact ⟨_, hnew, rfl⟩
end Go.Proofs.Ytlnmcilcifbcnaa

namespace Go.Proofs.Ytlnmcilcifbcnaa
open Go.RowKit Nds
theorem box_cell {w : World} {g : Nat} {u : Value} {t : TypeId} (h : w.heap[g]? = some (.cells #[u] t)) : w.cell? ⟨g, 0, none⟩ = some u := by
 rw [cell_of_row w g _ _ _ _ h]
 rfl
theorem box_free {w : World} {g : Nat} {u : Value} {t : TypeId} (h : w.heap[g]? = some (.cells #[u] t)) : w.frozen? ⟨g, 0, none⟩ = false := frozen_of_row w g 0 _ _ h
theorem box_lt {w : World} {g : Nat} {o : Obj} (h : w.heap[g]? = some o) : g < w.heap.size := (Array.getElem?_eq_some_iff.1 h).1
theorem box_set {w : World} {g : Nat} {u : Value} {t : TypeId} (h : w.heap[g]? = some (.cells #[u] t)) (z : Value) : (w.setCell ⟨g, 0, none⟩ z).heap[g]? = some (.cells #[z] t) := heap_setCell_same w g 0 _ _ _ h
def addR (out : List Nd) (x : Nd) : List Nd × Nat := if x.each (· == 0) = true then (out, 0) else add out x
def PS (bS bk bm : Nat) (v : Value) : Nat → Prop := fun k => k = bS ∨ k = bk ∨ k = bm ∨ v.ownBlock = some k
def RetA (out : List Nd) (x : Nd) (bS bk bm base : Nat) (v : Value) (w : World) (e : Ending) (w' : World) : Prop :=
 ∃ v', e = .returned (.int .i64 (((addR out x).2 : Nat) : Int)) ∧ w'.heap[bS]? = some (.cells #[v'] 29) ∧ OwnN w' base v' (addR out x).1 ∧ KM w' bk (addR out x).1 ∧ (∀ k, v'.ownBlock = some k → v.ownBlock = some k ∨ w.heap.size ≤ k) ∧ Ky (PS bS bk bm v) w w' ∧ (w'.heap[bm]? = w.heap[bm]?)
theorem add_keep {w w6 : World} {o p : Obj} {r : Option Nat} (h : ((w.alloc o).alloc p).grownBy w6 r) : ∀ b, b < (w.alloc o).heap.size → r ≠ some b → w6.heap[b]? = (w.alloc o).heap[b]? := by
 intro b hb hne
 rw [h.block b (by simp at hb ⊢; omega) (fun e => hne e.symm)]
 exact Below.heap_alloc _ _ _ hb
theorem add_keepS {W w6 : World} {bK bS bk bm base gx : Nat} {v : Value} {out : List Nd} {x : Nd} {t : TypeId} {u : Value} (hkp : ∀ b, b < W.heap.size → v.ownBlock ≠ some b → w6.heap[b]? = W.heap[b]?) (hvb : ∀ b, b < base → v.ownBlock ≠ some b)
  (hd : bK ≠ bS ∧ bS ≠ bk ∧ bK ≠ bk ∧ bm ≠ bS ∧ bm ≠ bk) (hb : bK < base ∧ bS < base ∧ bk < base ∧ bm < base ∧ base ≤ gx) (hK : W.heap[bK]? = some (.cells #[u] t)) (hM : KM W bk out) (hX : NdBox W gx x) (hvx : v.ownBlock ≠ some gx) (z : Value) :
  (w6.setCell ⟨bS, 0, none⟩ z).heap[bK]? = some (.cells #[u] t) ∧ KM (w6.setCell ⟨bS, 0, none⟩ z) bk out ∧ NdBox (w6.setCell ⟨bS, 0, none⟩ z) gx x ∧ (bm < W.heap.size → (w6.setCell ⟨bS, 0, none⟩ z).heap[bm]? = W.heap[bm]?) := by
 have hs : ∀ b, b ≠ bS → (w6.setCell ⟨bS, 0, none⟩ z).heap[b]? = w6.heap[b]? := fun b hne => Below.heap_setCell _ _ _ _ hne
 refine ⟨?_, ?_, ?_, fun hbm => ?_⟩
 ·
  rw [hs bK hd.1, hkp bK (box_lt hK) (hvb _ hb.1)]
  exact hK
 ·
  exact hM.stay ((hs bk (fun e => hd.2.1 e.symm)).trans (hkp bk hM.lt (hvb _ hb.2.2.1)))
 ·
  exact hX.stay ((hs gx (by omega)).trans (hkp gx hX.lt hvx))
 ·
  exact (hs bm hd.2.2.2.1).trans (hkp bm hbm (hvb _ hb.2.2.2.1))
theorem add_goodR {out : List Nd} {x : Nd} (h : GoodL out) (h2 : GoodL (out ++ [x])) : GoodL (out ++ [x]) := h2
theorem add_wfR {out : List Nd} {x : Nd} (h : ∀ y ∈ out, y.wf) (hx : x.wf) : ∀ y ∈ out ++ [x], y.wf := fun y hy => by
 rcases List.mem_append.1 hy with h1 | h1
 ·
  exact h y h1
 ·
  rw [List.mem_singleton.1 h1]; exact hx
set_option maxHeartbeats 3200000 in
theorem nadd_any (bK bS bk bm base : Nat) (v : Value) (out : List Nd) (x : Nd) (w : World) (hk : w.heap[bK]? = some (.cells #[.map (some bk)] 129)) (hs : w.heap[bS]? = some (.cells #[v] 29)) (ho : OwnN w base v out) (hm : KM w bk out) (hg : GoodL out) (hx : x.wf) (hl9 : out.length ≤ 990000)
  (hgs : fnd out x = 0 → x.each (· == 0) = false → GoodL (out ++ [x])) (hb : bK < base ∧ bS < base ∧ bk < base ∧ bm < base) (hd : bK ≠ bS ∧ bS ≠ bk ∧ bK ≠ bk ∧ bm ≠ bS ∧ bm ≠ bk) (hbase : base ≤ w.heap.size) :
  Calls Try.prog 106 #[ndv x, .pointer (some ⟨bK, 0, none⟩), .pointer (some ⟨bS, 0, none⟩)] w (RetA out x bS bk bm base v w) := by
 obtain ⟨R, hR⟩ : ∃ R, R = RetA out x bS bk bm base v w := ⟨_, rfl⟩
 rw [← hR]
 have HR := Lib.hid hR
 obtain ⟨W, hW⟩ : ∃ W : World, W = w.alloc (.cells #[.int .i64 x.lv, .int .i64 x.a, .int .i64 x.b, .int .i64 x.c, .int .i64 x.d] 66) := ⟨_, rfl⟩
 have bW : Below w.heap.size w W := by rw [hW]; exact (Below.refl _ _).alloc (Nat.le_refl _) _
 have kW : Ky (PS bS bk bm v) w W := by rw [hW]; exact (Ky.refl _ _).alloc _
 have hk' := (bW.block bK (box_lt hk)).trans hk
 have hs' := (bW.block bS (box_lt hs)).trans hs
 have hm' := hm.stay (bW.block bk hm.lt)
 have ho' := ho.stays bW
 have hxb : NdBox W w.heap.size x := by rw [hW]; exact NdBox.new w x
 have hbmW : W.heap[bm]? = w.heap[bm]? := bW.block bm (by omega)
 have HKB := Lib.hid hk'
 have HSB := Lib.hid hs'
 have HMB := Lib.hid hm'
 have HOB := Lib.hid ho'
 have HXB := Lib.hid hxb
 have HKW := Lib.hid kW
 have HBM := Lib.hid hbmW
 have HOW := Lib.hid ho
 have HWF := Lib.hid ho.1
 have HG := Lib.hid hg
 have HWX := Lib.hid hx
 have HBS := Lib.hid (show bK < base ∧ bS < base ∧ bk < base ∧ bm < base ∧ base ≤ w.heap.size from ⟨hb.1, hb.2.1, hb.2.2.1, hb.2.2.2, hbase⟩)
 have HDS := Lib.hid hd
 have hq := eql_four x hx
 have hlk := hm'.lookK hg ho.1 x hx
 have hbW := Nat.le_trans hbase bW.size
 rcases hz : x.each (· == 0) with _ | _
 ·
  have HZ := Lib.hid hz
  rw [hz] at hq
  rcases fnd_cases out x with ⟨hf, _⟩ | ⟨i, hi, hie, hf⟩
  ·
   have HF := Lib.hid hf
   have hadd : addR out x = (out ++ [x], out.length + 1) := by unfold addR; rw [hz, if_neg (by simp), add_none hf]
   have HAD := Lib.hid hadd
   rw [hf] at hlk
   have HGS := Lib.hid (hgs hf hz)
   have hfl : fnd (out ++ [x]) x = out.length + 1 := by
    refine fnd_some (by simp) (at_last out x) fun j hj => ?_
    rcases fnd_cases out x with ⟨_, h⟩ | ⟨i, _, _, h⟩
    ·
     rw [at_app hj]; exact h j hj
    ·
     omega
   have HFL := Lib.hid hfl
   have s1 := box_cell hs'
   have k1 := box_cell hk'
   obtain ⟨x1, x2, x3, x4, x5⟩ := hxb.at_
   subst hW
   clear hk hs ho hm hg hx hb hd bW kW hk' hs' hm' ho' hxb hbmW hR hz hf hadd hfl
   go_enter Try.func106, Try.ntmps106
   have HWL := Lib.hid (show w.heap.size < (w.alloc (.cells #[.int .i64 x.lv, .int .i64 x.a, .int .i64 x.b, .int .i64 x.c, .int .i64 x.d] 66)).heap.size by simp)
   have HVX := Lib.hid (show v.ownBlock ≠ some w.heap.size from fun e => absurd (HOW.out.lt _ e).2 (Nat.lt_irrefl _))
   have HVB := Lib.hid (show ∀ b, b < base → v.ownBlock ≠ some b from fun b hb e => absurd (HOW.out.lt _ e).1 (Nat.not_le.2 hb))
   go_wp2_with (first
    | (at_builtin; go_loud (refine wpList_append_nodes _ rfl _ _ rfl base _ out [x] _ 1 1 rfl rfl (HOB.out.alloc _) (ns_lit1 _ _ x HWX.out (by simp)) rfl (fun e => by cases e) (by omega) (by simp at hbW ⊢; omega) ?_; intro v6 w6 ho6 hg6 hk6; have HG6 := Lib.hid (show World.grownBy ((w.alloc (.cells #[.int .i64 x.lv, .int .i64 x.a, .int .i64 x.b, .int .i64 x.c, .int .i64 x.d] 66)).alloc (.cells #[.int .i64 x.lv, .int .i64 x.a, .int .i64 x.b, .int .i64 x.c, .int .i64 x.d] 66)) w6 v.ownBlock from hg6); have HK6 := Lib.hid (show v6.ownBlock = v.ownBlock ∨ v6.ownBlock = some ((w.alloc (.cells #[.int .i64 x.lv, .int .i64 x.a, .int .i64 x.b, .int .i64 x.c, .int .i64 x.d] 66)).alloc (.cells #[.int .i64 x.lv, .int .i64 x.a, .int .i64 x.b, .int .i64 x.c, .int .i64 x.d] 66)).heap.size from hk6); have HKP := Lib.hid (add_keep HG6.out); obtain ⟨A6, c6, hv6, -, -, -⟩ := ho6.shape; rw [show (out ++ [x]).length = out.length + 1 by simp] at hv6; subst hv6; have HO6 := Lib.hid ho6; have kS6 := (HKP.out bS (box_lt HSB.out) (HVB.out bS HBS.out.2.1)).trans HSB.out; have cS6 := box_cell kS6; have fS6 := box_free kS6; have HKU := Lib.hid (add_keepS HKP.out HVB.out HDS.out HBS.out HKB.out HMB.out HXB.out HVX.out (.slice A6 (out.length + 1) c6)); obtain ⟨y1, y2, y3, y4, y5⟩ := HKU.out.2.2.1.at_; have cK6 := box_cell HKU.out.1; have hSU := box_set kS6 (.slice A6 (out.length + 1) c6); have HSU := Lib.hid hSU; have cU6 := box_cell hSU; clear ho6 hg6 hk6 kS6 hSU))
    | (at_mapUpdate; go_loud (refine wpList_store_km _ rfl _ _ _ rfl bk out x _ rfl rfl rfl (by simp) HKU.out.2.1 HWF.out HWX.out HF.out ?_; intro w7 hm7 hg7; have HM7 := Lib.hid hm7; have HG7 := Lib.hid hg7; have hK7 := (hg7.block bK (box_lt HKU.out.1) (fun e => HDS.out.2.2.1 (Option.some.inj e))).trans HKU.out.1; have cK7 := box_cell hK7; obtain ⟨z1, z2, z3, z4, z5⟩ := (HKU.out.2.2.1.stay (hg7.block w.heap.size HKU.out.2.2.1.lt (fun e => by have h1 := HBS.out.2.2.1; have h2 := Option.some.inj e; omega))).at_; have hl7 := hm7.lookK (add_goodR HG.out HGS.out) (add_wfR HWF.out HWX.out) x HWX.out; rw [HFL.out] at hl7; clear hm7 hg7 hK7)))
   rw [HR.out]
   unfold RetA
   rw [HAD.out]
   have hlo := fun k hk => (HO6.out.lt k hk).1
   have hbs := HBS.out
   have hds := HDS.out
   have hszU : ∀ b, b < base → b < (w6.setCell ⟨bS, 0, none⟩ (.slice A6 (out.length + 1) c6)).heap.size := fun b hb => by
    have h1 := HG6.out.size
    simp [World.setCell] at h1 ⊢
    omega
   refine ⟨.slice A6 (out.length + 1) c6, by simp, (HG7.out.block bS (hszU bS hbs.2.1) (fun e => hds.2.1 (Option.some.inj e))).trans HSU.out, ?_, HM7.out, ?_, ?_, ?_⟩
   ·
    refine (HO6.out.gbr (gb_setCell _ _ _) (own_dec fun k hk e => ?_)).gbr HG7.out (own_dec fun k hk e => ?_)
    ·
     have h1 := hlo k hk
     have h2 : bS = k := Option.some.inj e
     omega
    ·
     have h1 := hlo k hk
     have h2 : bk = k := Option.some.inj e
     omega
   ·
    intro k hk
    rcases HK6.out with e | e
    ·
     exact .inl (e.symm.trans hk)
    ·
     rw [e] at hk
     simp at hk
     exact .inr (by omega)
   ·
    refine (((HKW.out.alloc _).gb HG6.out (fun i _ e => .inr (.inr (.inr e)))).set _ (fun _ => .inl rfl) _).gb HG7.out (fun i _ e => .inr (.inl (Option.some.inj e).symm))
   ·
    refine (HG7.out.block bm (hszU bm hbs.2.2.2.1) (fun e => hds.2.2.2.2 (Option.some.inj e))).trans ((HKU.out.2.2.2 ?_).trans HBM.out)
    simp
    omega
  ·
   have HF := Lib.hid hf
   have hadd : addR out x = (out, i + 1) := by unfold addR; rw [hz, if_neg (by simp), add_some hf]
   have HAD := Lib.hid hadd
   have t1 : ((i : Int) + 1 == 0) = false := beq_eq_false_iff_ne.2 (by omega)
   rw [hf] at hlk
   have k1 := box_cell hk'
   subst hW
   clear hk hs ho hm hg hx hb hd bW kW hk' hs' hm' ho' hxb hbmW hR hz hf hadd hi hie
   go_enter Try.func106, Try.ntmps106
   go_wp2_with fail
   rw [HR.out]
   unfold RetA
   rw [HAD.out]
   exact ⟨v, by simp, HSB.out, HOB.out, HMB.out, fun k hk => .inl hk, HKW.out, HBM.out⟩
 ·
  have HZ := Lib.hid hz
  rw [hz] at hq
  have hadd : addR out x = (out, 0) := by unfold addR; rw [hz, if_pos rfl]
  have HAD := Lib.hid hadd
  subst hW
  clear hk hs ho hm hg hx hb hd bW kW hk' hs' hm' ho' hxb hbmW hR hz hadd hlk
  go_enter Try.func106, Try.ntmps106
  go_wp2_with fail
  rw [HR.out]
  unfold RetA
  rw [HAD.out]
  exact ⟨v, rfl, HSB.out, HOB.out, HMB.out, fun k hk => .inl hk, HKW.out, HBM.out⟩
end Go.Proofs.Ytlnmcilcifbcnaa

namespace Go.Proofs.Ytlnmcilcifbcnaa
open Go.RowKit Nds
def addF (bK bS : Nat) : Value := .func (.func 106) #[] #[.pointer (some ⟨bK, 0, none⟩), .pointer (some ⟨bS, 0, none⟩)]
def visF (bN bL bV bA : Nat) : Value := .func (.func 107) #[] #[.pointer (some ⟨bN, 0, none⟩), .pointer (some ⟨bL, 0, none⟩), .pointer (some ⟨bV, 0, none⟩), .pointer (some ⟨bA, 0, none⟩)]
structure Env (w : World) (A : Option Addr) (c n bL bS bk bK bA bm bN bV : Nat) : Prop where
 l : w.heap[bL]? = some (.cells #[.slice A n c] 29)
 k : w.heap[bK]? = some (.cells #[.map (some bk)] 129)
 a : w.heap[bA]? = some (.cells #[addF bK bS] 130)
 n : w.heap[bN]? = some (.cells #[.map (some bm)] 131)
 v : w.heap[bV]? = some (.cells #[visF bN bL bV bA] 78)
def Chn (A : Option Addr) (bL bS bk bK bA bm bN bV base : Nat) : Prop := (∀ a, A = some a → a.block < bL) ∧ bL < bS ∧ bS < bk ∧ bk < bK ∧ bK < bA ∧ bA < bm ∧ bm < bN ∧ bN < bV ∧ bV < base
structure Sta (l : List Nd) (w : World) (bS bk bm base : Nat) (v : Value) (out : List Nd) : Prop where
 s : w.heap[bS]? = some (.cells #[v] 29)
 o : OwnN w base v out
 k : KM w bk out
 m : MM l w bm out
theorem ps_not {bS bk bm base b : Nat} {v : Value} {w : World} {out : List Nd} (ho : OwnN w base v out) (h1 : b ≠ bS) (h2 : b ≠ bk) (h3 : b ≠ bm) (h4 : b < base) : ¬ PS bS bk bm v b := by
 rintro (h | h | h | h)
 ·
  exact h1 h
 ·
  exact h2 h
 ·
  exact h3 h
 ·
  exact absurd (ho.lt b h).1 (Nat.not_le.2 h4)
theorem Env.ky {w w' : World} {A : Option Addr} {c n bL bS bk bK bA bm bN bV base : Nat} {v : Value} {out : List Nd} (h : Env w A c n bL bS bk bK bA bm bN bV) (ho : OwnN w base v out) (hc : Chn A bL bS bk bK bA bm bN bV base) (k : Ky (PS bS bk bm v) w w') : Env w' A c n bL bS bk bK bA bm bN bV := by
 obtain ⟨_, h1, h2, h3, h4, h5, h6, h7, h8⟩ := hc
 have key : ∀ b {o : Obj}, w.heap[b]? = some o → b ≠ bS → b ≠ bk → b ≠ bm → b < base → w'.heap[b]? = some o := fun b o hb a1 a2 a3 a4 => (k.block b (box_lt hb) (ps_not ho a1 a2 a3 a4)).trans hb
 exact ⟨key bL h.l (by omega) (by omega) (by omega) (by omega), key bK h.k (by omega) (by omega) (by omega) (by omega), key bA h.a (by omega) (by omega) (by omega) (by omega), key bN h.n (by omega) (by omega) (by omega) (by omega), key bV h.v (by omega) (by omega) (by omega) (by omega)⟩
theorem ns_ky {w w' : World} {A : Option Addr} {c bL bS bk bK bA bm bN bV base : Nat} {v : Value} {out l : List Nd} (h : Ns w A c l) (ho : OwnN w base v out) (hc : Chn A bL bS bk bK bA bm bN bV base) (k : Ky (PS bS bk bm v) w w') : Ns w' A c l := by
 obtain ⟨h0, h1, h2, h3, h4, h5, h6, h7, h8⟩ := hc
 exact k.ns h fun a ea => ps_not ho (by have := h0 a ea; omega) (by have := h0 a ea; omega) (by have := h0 a ea; omega) (by have := h0 a ea; omega)
def RetW (l : List Nd) (j : Nat) (out : List Nd) (bS bk bm base : Nat) (v : Value) (w : World) (e : Ending) (w' : World) : Prop :=
 ∃ v', e = .returned (.int .i64 (enc (den l j) out).2) ∧ Sta l w' bS bk bm base v' (enc (den l j) out).1 ∧ (∀ k, v'.ownBlock = some k → v.ownBlock = some k ∨ w.heap.size ≤ k) ∧ Ky (PS bS bk bm v) w w'
theorem oper_store_mm {w : World} {o : Oper} {a : Act} {K : Act → World → Prop} {Q : Exit → Act → World → Prop} {l : List Nd} {out : List Nd} {b n : Nat} {k : Int} (m x v : Operand) (hop : o.op = Op.mapUpdate 131 m x v)
  (hm : a.eval m = .map (some b)) (hx : a.eval x = .int .i64 (n : Int)) (hv : a.eval v = .int .i64 k) (h : MM l w b out) (hg : GoodL out) (hl : l.length ≤ 1000000) (hn : n ≤ l.length) (hk : NumT out (den l n) k)
  (hK : ∀ w', MM l w' b out → w.grownBy w' (some b) → (Instr.lookup 131 (.map (some b)) (.int .i64 (n : Int)) false).run Try.prog w' = .ok (.int .i64 k) w' → K (a.put o.dst undef) w') : Oper.wp Try.prog o a w K Q := by
 obtain ⟨w', hrun, r1, r2, r3⟩ := h.putM hg hl n hn hk
 unfold Oper.wp
 simp [execOp, hop, hm, hx, hv, hrun, Result.andThen]
 exact hK w' r1 r2 r3
set_option maxHeartbeats 3200000 in
theorem visit_known (A : Option Addr) (c n bL bS bk bK bA bm bN bV base : Nat) (l : List Nd) (j : Nat) (k : Int) (out : List Nd) (v : Value) (w : World) (hg : GoodL out) (henv : Env w A c n bL bS bk bK bA bm bN bV) (hst : Sta l w bS bk bm base v out)
  (hlk : (Instr.lookup 131 (.map (some bm)) (.int .i64 (j : Int)) true).run Try.prog w = .ok (.tuple #[.int .i64 k, .bool true]) w) (hnum : NumT out (den l j) k) :
  Calls Try.prog 107 #[.int .i64 (j : Int), .pointer (some ⟨bN, 0, none⟩), .pointer (some ⟨bL, 0, none⟩), .pointer (some ⟨bV, 0, none⟩), .pointer (some ⟨bA, 0, none⟩)] w (RetW l j out bS bk bm base v w) := by
 have hM := enc_memo hg _ _ hnum
 obtain ⟨R, hR⟩ : ∃ R, R = RetW l j out bS bk bm base v w := ⟨_, rfl⟩
 rw [← hR]
 have HR := Lib.hid hR
 have HM := Lib.hid hM
 have HS := Lib.hid hst
 have k1 := box_cell henv.n
 clear hR hM hst henv hnum hg
 go_enter Try.func107, Try.ntmps107
 go_wp2_with fail
 try go_ret
 rw [HR.out]
 unfold RetW
 rw [HM.out]
 exact ⟨v, rfl, HS.out, fun k hk => .inl hk, Ky.refl _ _⟩
theorem addR_pre (out : List Nd) (x : Nd) : out <+: (addR out x).1 := by
 unfold addR add
 split
 ·
  exact List.prefix_refl _
 ·
  split
  ·
   exact List.prefix_append _ _
  ·
   exact List.prefix_refl _
theorem vis_good {l out o4 : List Nd} {y : Nd} {p : Nat} (h : InvT l (enc (den l (p + 1)) out).1) (hr : enc (den l (p + 1)) out = ((addR o4 y).1, ((addR o4 y).2 : Int))) : fnd o4 y = 0 → y.each (· == 0) = false → GoodL (o4 ++ [y]) := by
 intro hf hz
 have h1 := h.1
 rw [hr] at h1
 unfold addR at h1
 rw [hz, if_neg (by simp), add_none hf] at h1
 exact h1
theorem vis_s {W : World} {A : Option Addr} {c n bL bS bk bK bA bm bN bV gx : Nat} {y : Nd} (h : Env W A c n bL bS bk bK bA bm bN bV) (hx : NdBox W gx y) : W.cell? ⟨bN, 0, none⟩ = some (.map (some bm)) ∧ W.cell? ⟨bA, 0, none⟩ = some (.func (.func 106) #[] #[.pointer (some ⟨bK, 0, none⟩), .pointer (some ⟨bS, 0, none⟩)]) ∧ W.cell? ⟨gx, 0, none⟩ = some (.int .i64 y.lv) ∧ W.cell? ⟨gx, 1, none⟩ = some (.int .i64 y.a) ∧ W.cell? ⟨gx, 2, none⟩ = some (.int .i64 y.b) ∧ W.cell? ⟨gx, 3, none⟩ = some (.int .i64 y.c) ∧ W.cell? ⟨gx, 4, none⟩ = some (.int .i64 y.d) := by
 obtain ⟨h1, h2, h3, h4, h5⟩ := hx.at_
 exact ⟨box_cell h.n, box_cell h.a, h1, h2, h3, h4, h5⟩
theorem sta_below {l : List Nd} {w w' : World} {bS bk bm base : Nat} {v : Value} {out : List Nd} (h : Sta l w bS bk bm base v out) (b : Below w.heap.size w w') : Sta l w' bS bk bm base v out :=
 ⟨(b.block bS (box_lt h.s)).trans h.s, h.o.stays b, h.k.stay (b.block bk h.k.lt), h.m.stay (b.block bm h.m.lt)⟩
theorem sta_set {l : List Nd} {w : World} {A : Option Addr} {bL bS bk bK bA bm bN bV base g : Nat} {v : Value} {out : List Nd} (h : Sta l w bS bk bm base v out) (hc : Chn A bL bS bk bK bA bm bN bV base) (hg0 : True ∨ g = g) (hg : base ≤ g) (hv : v.ownBlock ≠ some g) (o : Nat) (u : Value) : Sta l (w.setCell ⟨g, o, none⟩ u) bS bk bm base v out := by
 have hc2 := hc.2
 exact ⟨(Below.heap_setCell _ _ _ _ (show bS ≠ g by omega)).trans h.s, h.o.gbr (gb_setCell _ _ _) (.inr hv), h.k.stay (Below.heap_setCell _ _ _ _ (show bk ≠ g by omega)), h.m.stay (Below.heap_setCell _ _ _ _ (show bm ≠ g by omega))⟩
theorem env_set {w : World} {A : Option Addr} {c n bL bS bk bK bA bm bN bV base g : Nat} (h : Env w A c n bL bS bk bK bA bm bN bV) (hc : Chn A bL bS bk bK bA bm bN bV base) (hg : base ≤ g) (o : Nat) (u : Value) : Env (w.setCell ⟨g, o, none⟩ u) A c n bL bS bk bK bA bm bN bV := by
 have hc2 := hc.2
 exact ⟨(Below.heap_setCell _ _ _ _ (show bL ≠ g by omega)).trans h.l, (Below.heap_setCell _ _ _ _ (show bK ≠ g by omega)).trans h.k, (Below.heap_setCell _ _ _ _ (show bA ≠ g by omega)).trans h.a, (Below.heap_setCell _ _ _ _ (show bN ≠ g by omega)).trans h.n, (Below.heap_setCell _ _ _ _ (show bV ≠ g by omega)).trans h.v⟩
theorem vis_end {l : List Nd} {W1 W2 : World} {A : Option Addr} {c n bL bS bk bK bA bm bN bV base : Nat} {v2 : Value} {o5 : List Nd} (hc : Chn A bL bS bk bK bA bm bN bV base) (h : Env W1 A c n bL bS bk bK bA bm bN bV) (h1 : W1.heap[bS]? = some (.cells #[v2] 29)) (h2 : OwnN W1 base v2 o5) (h3 : KM W1 bk o5) (m2 : MM l W2 bm o5) (g2 : W1.grownBy W2 (some bm)) :
  Env W2 A c n bL bS bk bK bA bm bN bV ∧ Sta l W2 bS bk bm base v2 o5 := by
 have hc2 := hc.2
 have key : ∀ b, b ≠ bm → b < W1.heap.size → W2.heap[b]? = W1.heap[b]? := fun b hb hl => g2.block b hl (fun e => hb (Option.some.inj e))
 refine ⟨⟨(key bL (by omega) (box_lt h.l)).trans h.l, (key bK (by omega) (box_lt h.k)).trans h.k, (key bA (by omega) (box_lt h.a)).trans h.a, (key bN (by omega) (box_lt h.n)).trans h.n, (key bV (by omega) (box_lt h.v)).trans h.v⟩, ⟨(key bS (by omega) (box_lt h1)).trans h1, h2.gbr g2 (own_dec fun k hk e => ?_), h3.stay (key bk (by omega) h3.lt), m2⟩⟩
 have h4 := (h2.lt k hk).1
 have h5 : bm = k := Option.some.inj e
 omega
set_option maxHeartbeats 6400000 in
theorem visit_rec (A : Option Addr) (c n bL bS bk bK bA bm bN bV base : Nat) (l : List Nd) (hl : looseB l = true) (hn : l.length = n) (hn9 : n ≤ 990000) (hch : Chn A bL bS bk bK bA bm bN bV base) :
  ∀ (m j : Nat) (out : List Nd) (v : Value) (w : World), j ≤ n → (0 < j → (at_ l (j - 1)).lv ≤ m) → InvT l out → Env w A c n bL bS bk bK bA bm bN bV → Ns w A c l → Sta l w bS bk bm base v out → base ≤ w.heap.size →
  Calls Try.prog 107 #[.int .i64 (j : Int), .pointer (some ⟨bN, 0, none⟩), .pointer (some ⟨bL, 0, none⟩), .pointer (some ⟨bV, 0, none⟩), .pointer (some ⟨bA, 0, none⟩)] w (RetW l j out bS bk bm base v w) := by
 have HLL := Lib.hid hl
 have HL := Lib.hid hn
 have HCH := Lib.hid hch
 clear hl hn hch
 intro m
 induction m with
 | zero =>
  intro j out v w hj hm hinv henv hN hst hbase
  have hj0 : j = 0 := by
   rcases Nat.eq_zero_or_pos j with h | h
   ·
    exact h
   ·
    have := hm h
    have := fit_lv (loose_fit HLL.out (i := j - 1) (by rw [HL.out]; omega))
    omega
  rcases hst.m.lookM (by rw [HL.out]; omega) j (by rw [HL.out]; exact hj) with ⟨k, h1, h2⟩ | ⟨_, h2⟩
  ·
   exact visit_known A c n bL bS bk bK bA bm bN bV base l j k out v w hinv.1 henv hst h1 h2
  ·
   exact absurd hj0 h2
 | succ m ih =>
  intro j out v w hj hm hinv henv hN hst hbase
  rcases hst.m.lookM (by rw [HL.out]; omega) j (by rw [HL.out]; exact hj) with ⟨k, h1, h2⟩ | ⟨hlk, hj0⟩
  ·
   exact visit_known A c n bL bS bk bK bA bm bN bV base l j k out v w hinv.1 henv hst h1 h2
  ·
   obtain ⟨p, rfl⟩ : ∃ p, j = p + 1 := ⟨j - 1, by omega⟩
   have hcap := hN.cap
   rw [HL.out] at hcap
   have hpl : p < l.length := by rw [HL.out]; omega
   obtain ⟨b, off, rfl, hb, hc⟩ := hN.at_ (by omega)
   obtain ⟨c1, c2, c3, c4, c5⟩ := hc p hpl
   have hfx := Lib.hid (loose_fit HLL.out hpl)
   have hkf := Lib.hid (loose_iff.1 HLL.out p hpl)
   have hv2 := enc_visit HLL.out hpl out
   have hspec := enc_spec _ _ out (wf_den HLL.out p hpl) hinv.1
   have hienc := inv_enc HLL.out (p + 1) out (by omega) hinv
   have hwy := top_wf HLL.out hpl hinv (by rw [HL.out]; omega)
   have hte := top_each HLL.out hpl hinv
   have hiv := inv_outK HLL.out hpl hinv
   have hpre := outK_pre HLL.out hpl hinv
   have htone := fun h => top_one (l := l) (x := at_ l p) h out
   have hkone := fun h => kT_one (l := l) (x := at_ l p) h out
   have hlvm : (at_ l p).lv ≤ (m : Int) + 1 := by
    have := hm (by omega)
    rw [show p + 1 - 1 = p by omega] at this
    exact_mod_cast this
   obtain ⟨x, hx⟩ : ∃ x, x = at_ l p := ⟨_, rfl⟩
   rw [← hx] at c1 c2 c3 c4 c5 hfx hkf hv2 hwy hiv hpre htone hkone hlvm hte
   obtain ⟨y, hy⟩ : ∃ y, y = topN (kT l x) out x.lv := ⟨_, rfl⟩
   rw [← hy] at hv2 hwy htone hte
   have hret : enc (den l (p + 1)) out = ((addR (outK (kT l x) out 4) y).1, ((addR (outK (kT l x) out 4) y).2 : Int)) := by
    rw [hv2]
    unfold addR
    rw [hte]
    split
    ·
     rename_i h
     have hall := (norm_isE_iff (dens l) x).1 (by rw [hx, ← den_loose HLL.out hpl]; exact isE_iff.1 h)
     rw [outK_e (f := kT l x) 4 (fun i hi => hall i hi)]
     rfl
    ·
     rfl
   have HY := Lib.hid hy
   have HX := Lib.hid hx
   have HRT := Lib.hid hret
   have HSP := Lib.hid hspec
   have HIE := Lib.hid hienc
   have HWY := Lib.hid hwy
   have HTE := Lib.hid hte
   have HIV := Lib.hid hiv
   have HPRE := Lib.hid hpre
   have HT1 := Lib.hid htone
   have HK1 := Lib.hid hkone
   have HNW := Lib.hid hN
   have HST := Lib.hid hst
   have HEN := Lib.hid henv
   have i1 : (p : Int) + 1 < (n : Int) + 1 := by omega
   have i3 : (p : Int) < (n : Int) := by omega
   have hxv := fit_lv hfx.out
   obtain ⟨R, hR⟩ : ∃ R, R = RetW l (p + 1) out bS bk bm base v w := ⟨_, rfl⟩
   rw [← hR]
   have HR := Lib.hid hR
   have HNB := Lib.hid (NdBox.new w x)
   have k1 := box_cell henv.n
   have k2 := box_cell henv.l
   rw [show ((p + 1 : Nat) : Int) = (p : Int) + 1 by omega] at hlk ⊢
   clear hN hst henv hinv hR hc hj0 hv2 hspec hienc hwy hte hiv hpre htone hkone hy hx hb hm hret
   go_enter Try.func107, Try.ntmps107
   -- the walk
   have hWK : Ky (PS bS bk bm v) w (w.alloc (.cells #[.int .i64 x.lv, .int .i64 x.a, .int .i64 x.b, .int .i64 x.c, .int .i64 x.d] 66)) := (Ky.refl _ _).alloc _
   have hWB : Below w.heap.size w (w.alloc (.cells #[.int .i64 x.lv, .int .i64 x.a, .int .i64 x.b, .int .i64 x.c, .int .i64 x.d] 66)) := (Below.refl _ _).alloc (Nat.le_refl _) _
   have hWS := sta_below HST.out hWB
   have hWE := HEN.out.ky HST.out.o HCH.out hWK
   have hvx : v.ownBlock ≠ some w.heap.size := fun e => absurd (HST.out.o.lt _ e).2 (Nat.lt_irrefl _)
   have HWK := Lib.hid hWK
   have HWS := Lib.hid hWS
   have HWE := Lib.hid hWE
   have HVX := Lib.hid hvx
   have HPX := Lib.hid (show ∀ u : Value, u.ownBlock ≠ some w.heap.size → ¬ PS bS bk bm u w.heap.size from fun u hu => by
    have hc := HCH.out.2
    rintro (h | h | h | h)
    ·
     omega
    ·
     omega
    ·
     omega
    ·
     exact hu h)
   clear hWK hWB hWS hWE hvx
   by_cases hlv : 1 < x.lv
   ·
    have t1 : decide (1 < x.lv) = true := decide_eq_true hlv
    have hne : x.lv ≠ 1 := by omega
    go_wp2_with fail
    obtain ⟨gx, hgx⟩ : ∃ gx, gx = w.heap.size := ⟨_, rfl⟩
    have HGX := Lib.hid hgx
    rw [← hgx] at HNB HVX HPX ⊢
    have HNB0 := Lib.hid (show NdBox (w.alloc (.cells #[.int .i64 x.lv, .int .i64 x.a, .int .i64 x.b, .int .i64 x.c, .int .i64 x.d] 66)) gx (mix x y 0) from HNB.out)
    generalize hWW : World.alloc _ _ = W at *
    clear hWW hgx c1 c2 c3 c4 c5 k1 k2 hlk
    go_loopw [30, 10, 11] (fun z1 z2 z3 wr => ∃ (q : Nat) (u2 u3 v1 : Value), q ≤ 4 ∧ z1 = .int .i64 q ∧ z2 = u2 ∧ z3 = u3 ∧ Sta l wr bS bk bm base v1 (outK (kT l x) out q) ∧ Env wr (some ⟨b, off, none⟩) c n bL bS bk bK bA bm bN bV ∧ v1.ownBlock ≠ some gx ∧
     (∀ k, v1.ownBlock = some k → v.ownBlock = some k ∨ w.heap.size ≤ k) ∧ NdBox wr gx (mix x y q) ∧ Ky (PS bS bk bm v) w wr) (fun z1 _ _ _ => 4 - (intOf z1).toNat)
    case atStart => exact ⟨0, _, _, v, by omega, rfl, rfl, rfl, HWS.out, HWE.out, HVX.out, fun k hk => .inl hk, HNB0.out, HWK.out⟩
    case round =>
     obtain ⟨q, u2, u3, v1, hq, rfl, rfl, rfl, h1, h2, h3, h4, h5, h6⟩ := hrel
     have H1 := Lib.hid h1
     have H2 := Lib.hid h2
     have H3 := Lib.hid h3
     have H4 := Lib.hid h4
     have H5 := Lib.hid h5
     have H6 := Lib.hid h6
     clear h1 h2 h3 h4 h5 h6
     by_cases hq4 : q < 4
     ·
      obtain ⟨r, hr, hkT, hkr⟩ := kT_up hfx.out hne hq4
      have hidx := index4 x q hq4
      rw [hkr] at hidx
      have hrp : r ≤ p := by
       rcases kid_up hne (fit_kid hkf.out hq4) with e | ⟨t, e, ht, _⟩
       ·
        omega
       ·
        have := List.length_take_le p l
        omega
      have hrlv : 0 < r → (at_ l (r - 1)).lv ≤ (m : Int) := by
       intro h0
       rcases kid_up hne (fit_kid hkf.out hq4) with e | ⟨t, e, ht, htl⟩
       ·
        omega
       ·
        have hle := List.length_take_le p l
        rw [at_take (by omega)] at htl
        rw [show r - 1 = t by omega]
        omega
      have hstep : outK (kT l x) out (q + 1) = (enc (den l r) (outK (kT l x) out q)).1 := by
       show (enc (kT l x q) _).1 = _
       rw [hkT]
      have hnum : y.kid q = (enc (den l r) (outK (kT l x) out q)).2 := by
       rw [HY.out, topN_kid _ _ _ hq4]
       show (enc (kT l x q) _).2 = _
       rw [hkT]
      have HST2 := Lib.hid hstep
      have HNU := Lib.hid hnum
      have hNr := Lib.hid (ns_ky HNW.out HST.out.o HCH.out H6.out)
      have hbs := Nat.le_trans hbase H6.out.size
      have hrn : r ≤ n := by rw [← HL.out]; exact hr
      have HIQ := Lib.hid (HIV.out q hq)
      have HRL := Lib.hid hrlv
      have i4 : (q : Int) < 4 := by omega
      have kv : wr.cell? ⟨bV, 0, none⟩ = some (.func (.func 107) #[] #[.pointer (some ⟨bN, 0, none⟩), .pointer (some ⟨bL, 0, none⟩), .pointer (some ⟨bV, 0, none⟩), .pointer (some ⟨bA, 0, none⟩)]) := box_cell H2.out.v
      clear hstep hnum hkT hkr hr hrlv
      go_wp2_with (go_at_call 107; go_loud (refine (ih r _ v1 _ hrn HRL.out HIQ.out H2.out hNr.out H1.out hbs).mono ?_; rintro e w1 ⟨v2, rfl, r1, r2, r3⟩; have R1 := Lib.hid r1; have R2 := Lib.hid r2; have R3 := Lib.hid r3; have hbx1 := Lib.hid (H5.out.stay (r3.block gx H5.out.lt (HPX.out v1 H3.out))); have hen1 := Lib.hid (H2.out.ky H1.out.o HCH.out r3); clear r1 r2 r3; have fz := hbx1.out.free (1 + q); have cz := hbx1.out.at_.kid hq4; rw [show 0 + 1 + q = 1 + q by omega] at cz))
      go_roundw
      case rel =>
       have hvx2 : v2.ownBlock ≠ some gx := fun e => by
        rcases R2.out gx e with e2 | e2
        ·
         exact H3.out e2
        ·
         exact absurd H5.out.lt (Nat.not_lt.2 e2)
       refine ⟨q + 1, _, _, v2, by omega, by go_num, rfl, rfl, ?_, ?_, hvx2, ?_, ?_, ?_⟩
       ·
        rw [HST2.out]
        exact sta_set R1.out HCH.out (g := gx) (by rw [HGX.out]; omega) (by rw [HGX.out]; exact hbase) hvx2 _ _
       ·
        exact env_set hen1.out HCH.out (g := gx) (by rw [HGX.out]; exact hbase) _ _
       ·
        intro k hk
        rcases R2.out k hk with e2 | e2
        ·
         exact H4.out k e2
        ·
         exact .inr (Nat.le_trans H6.out.size e2)
       ·
        exact hbx1.out.setKid hq4 (by omega) HNU.out.symm
       ·
        refine (H6.out.trans R3.out (fun i hi hp => ?_)).set _ (fun h => ?_) _
        ·
         rcases hp with h1 | h1 | h1 | h1
         ·
          exact .inl h1
         ·
          exact .inr (.inl h1)
         ·
          exact .inr (.inr (.inl h1))
         ·
          rcases H4.out i h1 with e2 | e2
          ·
           exact .inr (.inr (.inr e2))
          ·
           omega
        ·
         exact absurd (show gx < w.heap.size from h) (by rw [HGX.out]; exact Nat.lt_irrefl _)
      case measure => simp [intOf]; omega
     ·
      have hq5 : q = 4 := by omega
      subst hq5
      obtain ⟨o4, ho4⟩ : ∃ o4, o4 = outK (kT l x) out 4 := ⟨_, rfl⟩
      have hFI := HIV.out 4 (Nat.le_refl _)
      rw [← ho4] at H1 HRT hFI
      have FS := H1
      have FE := H2
      have FX := Lib.hid (show NdBox wr gx y by have h := H5.out; rw [mix_four (by rw [HY.out]; rfl)] at h; exact h)
      have FK := H6
      have FO := H4
      have FI := Lib.hid hFI
      have FP := Lib.hid (HPX.out v1 H3.out)
      clear ho4 hFI H1 H2 H4 H5 H6 hq4
      go_wp2_with fail
      refine wp_region_noPanic ?_
      refine wp_region_held (S := fun w' => w'.cell? ⟨bN, 0, none⟩ = some (.map (some bm)) ∧ w'.cell? ⟨bA, 0, none⟩ = some (.func (.func 106) #[] #[.pointer (some ⟨bK, 0, none⟩), .pointer (some ⟨bS, 0, none⟩)]) ∧ w'.cell? ⟨gx, 0, none⟩ = some (.int .i64 y.lv) ∧ w'.cell? ⟨gx, 1, none⟩ = some (.int .i64 y.a) ∧ w'.cell? ⟨gx, 2, none⟩ = some (.int .i64 y.b) ∧ w'.cell? ⟨gx, 3, none⟩ = some (.int .i64 y.c) ∧ w'.cell? ⟨gx, 4, none⟩ = some (.int .i64 y.d)) (by kernel_rfl) ?_
      obtain ⟨W0, hW0⟩ : ∃ W0 : World, W0 = wr.drew := ⟨_, rfl⟩
      have E0 := Lib.hid (show Env W0 (some ⟨b, off, none⟩) c n bL bS bk bK bA bm bN bV by rw [hW0]; exact ⟨FE.out.l, FE.out.k, FE.out.a, FE.out.n, FE.out.v⟩)
      have S0 := Lib.hid (show Sta l W0 bS bk bm base v1 o4 by rw [hW0]; exact ⟨FS.out.s, FS.out.o, FS.out.k, FS.out.m⟩)
      have X0 := Lib.hid (show NdBox W0 gx y by rw [hW0]; exact FX.out)
      have K0 := Lib.hid (show Ky (PS bS bk bm v) w W0 by rw [hW0]; exact ⟨FK.out.os, FK.out.tape, FK.out.output, FK.out.size, FK.out.block⟩)
      have hS0 := vis_s E0.out X0.out
      change wpAnyH _ _ _ _ _ _ _ _ wr.drew
      rw [← hW0]
      clear hW0
      refine wpAnyH_take (i := 0) (v := ?_) rfl (by kernel_rfl) (by kernel_rfl) (by kernel_rfl) (fun _ _ _ h => h) (Or.inl ⟨by rfl, ?_⟩) hS0 ?_
      rotate_left
      ·
       rintro w' ⟨s1, s2, s3, s4, s5, s6, s7⟩
       go_simp
       first | done | with_reducible rfl | rfl
      simp only [Act.put, LA]
      refine wpAnyH_take (i := 1) (v := ?_) rfl (by kernel_rfl) (by kernel_rfl) (by kernel_rfl) (fun _ _ _ h => h) (Or.inl ⟨by rfl, ?_⟩) hS0 ?_
      rotate_left
      ·
       rintro w' ⟨s1, s2, s3, s4, s5, s6, s7⟩
       go_simp
       first | done | with_reducible rfl | rfl
      simp only [Act.put, LA]
      refine wpAnyH_take (i := 2) (v := ?_) rfl (by kernel_rfl) (by kernel_rfl) (by kernel_rfl) (fun _ _ _ h => h) (Or.inl ⟨by rfl, ?_⟩) hS0 ?_
      rotate_left
      ·
       rintro w' ⟨s1, s2, s3, s4, s5, s6, s7⟩
       go_simp
       first | done | with_reducible rfl | rfl
      simp only [Act.put, LA]
      refine wpAnyH_take (i := 3) (v := ?_) rfl (by kernel_rfl) (by kernel_rfl) (by kernel_rfl) (fun _ _ _ h => h) (Or.inl ⟨by rfl, ?_⟩) hS0 ?_
      rotate_left
      ·
       rintro w' ⟨s1, s2, s3, s4, s5, s6, s7⟩
       go_simp
       first | done | with_reducible rfl | rfl
      simp only [Act.put, LA]
      refine wpAnyH_ready (rs := [4]) (by kernel_rfl) (by simp) (AllReadyH.cons rfl (fun K hK => ?_) AllReadyH.nil)
      go_simp
      refine (nadd_any bK bS bk bm base v1 o4 y W0 E0.out.k S0.out.s S0.out.o S0.out.k FI.out.1 HWY.out (by have := FI.out.len; rw [HL.out] at this; omega) (vis_good HIE.out HRT.out) (by have := HCH.out.2; omega) (by have := HCH.out.2; omega) (Nat.le_trans hbase K0.out.size)).mono ?_
      rintro e W1 ⟨v2, rfl, a1, a2, a3, a4, a5, a6⟩
      dsimp only
      have E1 := Lib.hid (E0.out.ky S0.out.o HCH.out a5)
      have X1 := Lib.hid (X0.out.stay (a5.block gx X0.out.lt FP.out))
      have M1 := Lib.hid ((S0.out.m.stay a6).pre (addR_pre o4 y))
      have A1 := Lib.hid a1
      have A2 := Lib.hid a2
      have A3 := Lib.hid a3
      have A4 := Lib.hid a4
      have A5 := Lib.hid a5
      refine hK.out _ _ (vis_s E1.out X1.out) (fun _ => ?_)
      clear hK K a1 a2 a3 a4 a5 a6
      refine wpAnyH_ready (rs := [5]) (by kernel_rfl) (by simp) (AllReadyH.cons rfl (fun K hK => ?_) AllReadyH.nil)
      refine oper_store_mm (l := l) (out := (addR o4 y).1) (n := p + 1) (.tmp 41) (.tmp 42) (.tmp 45) rfl rfl rfl rfl M1.out (by have h1 := HIE.out.1; rw [HRT.out] at h1; exact h1) (by rw [HL.out]; omega) (by rw [HL.out]; omega) (by have h1 := HSP.out.num; rw [HRT.out] at h1; exact h1) ?_
      intro W2 m2 g2 l2
      simp only [Act.put, LA]
      rw [show ((p + 1 : Nat) : Int) = (p : Int) + 1 by omega] at l2
      have Z := Lib.hid (vis_end HCH.out E1.out A1.out A2.out A3.out m2 g2)
      have X2 := Lib.hid (X1.out.stay (g2.block gx X1.out.lt (fun e => FP.out (.inr (.inr (.inl (Option.some.inj e)))))))
      have G2 := Lib.hid g2
      refine hK.out _ _ (vis_s Z.out.1 X2.out) (fun _ => ?_)
      clear hK K m2 g2
      refine wpAnyH_done (by kernel_rfl) ?_ _
      refine NoPanic.normal ?_
      have k5 := box_cell Z.out.1.n
      go_wp2_with fail
      try go_ret
      rw [HR.out]
      unfold RetW
      rw [HRT.out]
      refine ⟨v2, rfl, Z.out.2, ?_, ?_⟩
      ·
       intro k hk
       rcases A4.out k hk with h1 | h1
       ·
        exact FO.out k h1
       ·
        exact .inr (Nat.le_trans K0.out.size h1)
      ·
       refine (K0.out.trans A5.out (fun i hi hp => ?_)).gb G2.out (fun i _ e => .inr (.inr (.inl (Option.some.inj e).symm)))
       rcases hp with h1 | h1 | h1 | h1
       ·
        exact .inl h1
       ·
        exact .inr (.inl h1)
       ·
        exact .inr (.inr (.inl h1))
       ·
        rcases FO.out i h1 with h2 | h2
        ·
         exact .inr (.inr (.inr h2))
        ·
         omega
   ·
    have t1 : decide (1 < x.lv) = false := decide_eq_false hlv
    have HONE := Lib.hid (show x.lv = 1 by omega)
    go_wp2_with fail
    obtain ⟨gx, hgx⟩ : ∃ gx, gx = w.heap.size := ⟨_, rfl⟩
    rw [← hgx] at HNB HVX HPX ⊢
    obtain ⟨W, hW⟩ : ∃ W : World, W = w.alloc (.cells #[.int .i64 x.lv, .int .i64 x.a, .int .i64 x.b, .int .i64 x.c, .int .i64 x.d] 66) := ⟨_, rfl⟩
    have FE := Lib.hid (show Env W (some ⟨b, off, none⟩) c n bL bS bk bK bA bm bN bV by rw [hW]; exact HWE.out)
    have FX := Lib.hid (show NdBox W gx y by rw [hW, HT1.out HONE.out]; exact HNB.out)
    have FK := Lib.hid (show Ky (PS bS bk bm v) w W by rw [hW]; exact HWK.out)
    obtain ⟨o4, ho4⟩ : ∃ o4, o4 = outK (kT l x) out 4 := ⟨_, rfl⟩
    have hFI := HIV.out 4 (Nat.le_refl _)
    rw [← ho4] at HRT hFI
    have FI := Lib.hid hFI
    obtain ⟨v1, hv1⟩ : ∃ v1, v1 = v := ⟨_, rfl⟩
    have FS := Lib.hid (show Sta l W bS bk bm base v1 o4 by rw [hW, hv1, ho4, HK1.out HONE.out 4]; exact HWS.out)
    have FO := Lib.hid (show ∀ k, v1.ownBlock = some k → v.ownBlock = some k ∨ w.heap.size ≤ k from fun k hk => by rw [hv1] at hk; exact .inl hk)
    have FP := Lib.hid (HPX.out v1 (by rw [hv1]; exact HVX.out))
    rw [← hW]
    clear hW hgx ho4 hFI hv1 c1 c2 c3 c4 c5 k1 k2 hlk
    refine wp_region_noPanic ?_
    refine wp_region_held (S := fun w' => w'.cell? ⟨bN, 0, none⟩ = some (.map (some bm)) ∧ w'.cell? ⟨bA, 0, none⟩ = some (.func (.func 106) #[] #[.pointer (some ⟨bK, 0, none⟩), .pointer (some ⟨bS, 0, none⟩)]) ∧ w'.cell? ⟨gx, 0, none⟩ = some (.int .i64 y.lv) ∧ w'.cell? ⟨gx, 1, none⟩ = some (.int .i64 y.a) ∧ w'.cell? ⟨gx, 2, none⟩ = some (.int .i64 y.b) ∧ w'.cell? ⟨gx, 3, none⟩ = some (.int .i64 y.c) ∧ w'.cell? ⟨gx, 4, none⟩ = some (.int .i64 y.d)) (by kernel_rfl) ?_
    obtain ⟨W0, hW0⟩ : ∃ W0 : World, W0 = W.drew := ⟨_, rfl⟩
    have E0 := Lib.hid (show Env W0 (some ⟨b, off, none⟩) c n bL bS bk bK bA bm bN bV by rw [hW0]; exact ⟨FE.out.l, FE.out.k, FE.out.a, FE.out.n, FE.out.v⟩)
    have S0 := Lib.hid (show Sta l W0 bS bk bm base v1 o4 by rw [hW0]; exact ⟨FS.out.s, FS.out.o, FS.out.k, FS.out.m⟩)
    have X0 := Lib.hid (show NdBox W0 gx y by rw [hW0]; exact FX.out)
    have K0 := Lib.hid (show Ky (PS bS bk bm v) w W0 by rw [hW0]; exact ⟨FK.out.os, FK.out.tape, FK.out.output, FK.out.size, FK.out.block⟩)
    have hS0 := vis_s E0.out X0.out
    change wpAnyH _ _ _ _ _ _ _ _ W.drew
    rw [← hW0]
    clear hW0
    refine wpAnyH_take (i := 0) (v := ?_) rfl (by kernel_rfl) (by kernel_rfl) (by kernel_rfl) (fun _ _ _ h => h) (Or.inl ⟨by rfl, ?_⟩) hS0 ?_
    rotate_left
    ·
     rintro w' ⟨s1, s2, s3, s4, s5, s6, s7⟩
     go_simp
     first | done | with_reducible rfl | rfl
    simp only [Act.put, LA]
    refine wpAnyH_take (i := 1) (v := ?_) rfl (by kernel_rfl) (by kernel_rfl) (by kernel_rfl) (fun _ _ _ h => h) (Or.inl ⟨by rfl, ?_⟩) hS0 ?_
    rotate_left
    ·
     rintro w' ⟨s1, s2, s3, s4, s5, s6, s7⟩
     go_simp
     first | done | with_reducible rfl | rfl
    simp only [Act.put, LA]
    refine wpAnyH_take (i := 2) (v := ?_) rfl (by kernel_rfl) (by kernel_rfl) (by kernel_rfl) (fun _ _ _ h => h) (Or.inl ⟨by rfl, ?_⟩) hS0 ?_
    rotate_left
    ·
     rintro w' ⟨s1, s2, s3, s4, s5, s6, s7⟩
     go_simp
     first | done | with_reducible rfl | rfl
    simp only [Act.put, LA]
    refine wpAnyH_take (i := 3) (v := ?_) rfl (by kernel_rfl) (by kernel_rfl) (by kernel_rfl) (fun _ _ _ h => h) (Or.inl ⟨by rfl, ?_⟩) hS0 ?_
    rotate_left
    ·
     rintro w' ⟨s1, s2, s3, s4, s5, s6, s7⟩
     go_simp
     first | done | with_reducible rfl | rfl
    simp only [Act.put, LA]
    refine wpAnyH_ready (rs := [4]) (by kernel_rfl) (by simp) (AllReadyH.cons rfl (fun K hK => ?_) AllReadyH.nil)
    go_simp
    refine (nadd_any bK bS bk bm base v1 o4 y W0 E0.out.k S0.out.s S0.out.o S0.out.k FI.out.1 HWY.out (by have := FI.out.len; rw [HL.out] at this; omega) (vis_good HIE.out HRT.out) (by have := HCH.out.2; omega) (by have := HCH.out.2; omega) (Nat.le_trans hbase K0.out.size)).mono ?_
    rintro e W1 ⟨v2, rfl, a1, a2, a3, a4, a5, a6⟩
    dsimp only
    have E1 := Lib.hid (E0.out.ky S0.out.o HCH.out a5)
    have X1 := Lib.hid (X0.out.stay (a5.block gx X0.out.lt FP.out))
    have M1 := Lib.hid ((S0.out.m.stay a6).pre (addR_pre o4 y))
    have A1 := Lib.hid a1
    have A2 := Lib.hid a2
    have A3 := Lib.hid a3
    have A4 := Lib.hid a4
    have A5 := Lib.hid a5
    refine hK.out _ _ (vis_s E1.out X1.out) (fun _ => ?_)
    clear hK K a1 a2 a3 a4 a5 a6
    refine wpAnyH_ready (rs := [5]) (by kernel_rfl) (by simp) (AllReadyH.cons rfl (fun K hK => ?_) AllReadyH.nil)
    refine oper_store_mm (l := l) (out := (addR o4 y).1) (n := p + 1) (.tmp 41) (.tmp 42) (.tmp 45) rfl rfl rfl rfl M1.out (by have h1 := HIE.out.1; rw [HRT.out] at h1; exact h1) (by rw [HL.out]; omega) (by rw [HL.out]; omega) (by have h1 := HSP.out.num; rw [HRT.out] at h1; exact h1) ?_
    intro W2 m2 g2 l2
    simp only [Act.put, LA]
    rw [show ((p + 1 : Nat) : Int) = (p : Int) + 1 by omega] at l2
    have Z := Lib.hid (vis_end HCH.out E1.out A1.out A2.out A3.out m2 g2)
    have X2 := Lib.hid (X1.out.stay (g2.block gx X1.out.lt (fun e => FP.out (.inr (.inr (.inl (Option.some.inj e)))))))
    have G2 := Lib.hid g2
    refine hK.out _ _ (vis_s Z.out.1 X2.out) (fun _ => ?_)
    clear hK K m2 g2
    refine wpAnyH_done (by kernel_rfl) ?_ _
    refine NoPanic.normal ?_
    have k5 := box_cell Z.out.1.n
    go_wp2_with fail
    try go_ret
    rw [HR.out]
    unfold RetW
    rw [HRT.out]
    refine ⟨v2, rfl, Z.out.2, ?_, ?_⟩
    ·
     intro k hk
     rcases A4.out k hk with h1 | h1
     ·
      exact FO.out k h1
     ·
      exact .inr (Nat.le_trans K0.out.size h1)
    ·
     refine (K0.out.trans A5.out (fun i hi hp => ?_)).gb G2.out (fun i _ e => .inr (.inr (.inl (Option.some.inj e).symm)))
     rcases hp with h1 | h1 | h1 | h1
     ·
      exact .inl h1
     ·
      exact .inr (.inl h1)
     ·
      exact .inr (.inr (.inl h1))
     ·
      rcases FO.out i h1 with h2 | h2
      ·
       exact .inr (.inr (.inr h2))
      ·
       omega
end Go.Proofs.Ytlnmcilcifbcnaa

namespace Go.Proofs.Ytlnmcilcifbcnaa
open Go.RowKit Nds
theorem mm_first (l : List Nd) (w : World) (b : Nat) (hb : w.heap[b]? = some (.map #[] 0)) :
  ∃ w', (Instr.mapUpdate 131 (.map (some b)) (.int .i64 0) (.int .i64 0)).run Try.prog w = .ok () w' ∧ MM l w' b [] ∧ w.grownBy w' (some b) ∧ w'.heap.size = w.heap.size := by
 obtain ⟨kl, hkey⟩ := key_i (0 : Int) in64_0
 rcases Try.intLaw.find w hkey (#[] : Array MapEntry).toList (by simp) with ⟨f1, f2⟩ | ⟨j, e0, f1, f2, f3⟩
 ·
  refine ⟨ChangeMaps.setBlock w b (.map ((#[] : Array MapEntry).push ⟨.int .i64 0, .int .i64 0, 0⟩) (0 + 1)), ?_, ⟨_, _, ChangeMaps.heap_setBlock_same hb _, ?_, ?_⟩, ⟨rfl, rfl, rfl, by simp [ChangeMaps.setBlock], fun i _ hi => ChangeMaps.heap_setBlock_other hb _ (fun e => hi (by rw [e]))⟩, by simp [ChangeMaps.setBlock]⟩
  ·
   simp [Instr.mapUpdate, run_underlying Try.underlying131, MapKept.run_getObj_map hb, Try.intLaw.check w false hkey, f1, MapKept.run_setObj_map _ hb, Result.andThen, ChangeMaps.setBlock]
  ·
   intro e he
   simp at he
   subst he
   exact ⟨0, 0, Nat.zero_le _, rfl, rfl, by rw [den_zero]; rfl⟩
  ·
   exact ⟨_, by simp; rfl, rfl⟩
 ·
  simp at f2
theorem push_at {α : Type} (a : Array α) (x : α) (k : Nat) (h : k = a.size) : (a.push x)[k]? = some x := by
 subst h
 simp
theorem env_start (w : World) (A : Option Addr) (c n : Nat) (W6 W7 : World) (h6 : W6 = ((((((w.alloc (.cells #[.slice A n c] 29)).alloc (.cells #[.slice none 0 0] 29)).alloc (.map #[] 0)).alloc (.cells #[.map (some (w.heap.size + 1 + 1))] 129)).alloc (.cells #[addF (w.heap.size + 1 + 1 + 1) (w.heap.size + 1)] 130)).alloc (.map #[] 0))) (g7 : W6.grownBy W7 (some (w.heap.size + 1 + 1 + 1 + 1 + 1))) (hs : W7.heap.size = W6.heap.size) :
  W6.heap[w.heap.size + 1 + 1 + 1 + 1 + 1]? = some (.map #[] 0) ∧ W6.heap.size = w.heap.size + 6 ∧
  Env ((W7.alloc (.cells #[.map (some (w.heap.size + 1 + 1 + 1 + 1 + 1))] 131)).alloc (.cells #[visF W7.heap.size w.heap.size (W7.heap.size + 1) (w.heap.size + 1 + 1 + 1 + 1)] 78)) A c n w.heap.size (w.heap.size + 1) (w.heap.size + 1 + 1) (w.heap.size + 1 + 1 + 1) (w.heap.size + 1 + 1 + 1 + 1) (w.heap.size + 1 + 1 + 1 + 1 + 1) W7.heap.size (W7.heap.size + 1) ∧
  ((W7.alloc (.cells #[.map (some (w.heap.size + 1 + 1 + 1 + 1 + 1))] 131)).alloc (.cells #[visF W7.heap.size w.heap.size (W7.heap.size + 1) (w.heap.size + 1 + 1 + 1 + 1)] 78)).heap[w.heap.size + 1]? = some (.cells #[.slice none 0 0] 29) ∧
  KM ((W7.alloc (.cells #[.map (some (w.heap.size + 1 + 1 + 1 + 1 + 1))] 131)).alloc (.cells #[visF W7.heap.size w.heap.size (W7.heap.size + 1) (w.heap.size + 1 + 1 + 1 + 1)] 78)) (w.heap.size + 1 + 1) [] := by
 have hsz : W6.heap.size = w.heap.size + 6 := by rw [h6]; simp
 have l5 : W6.heap[w.heap.size + 1 + 1 + 1 + 1 + 1]? = some (.map #[] 0) := by
  rw [h6]
  exact push_at _ _ _ (by simp)
 have l4 : W6.heap[w.heap.size + 1 + 1 + 1 + 1]? = some (.cells #[addF (w.heap.size + 1 + 1 + 1) (w.heap.size + 1)] 130) := by
  rw [h6, Below.heap_alloc _ _ _ (by simp)]
  exact push_at _ _ _ (by simp)
 have l3 : W6.heap[w.heap.size + 1 + 1 + 1]? = some (.cells #[.map (some (w.heap.size + 1 + 1))] 129) := by
  rw [h6, Below.heap_alloc _ _ _ (by simp <;> omega), Below.heap_alloc _ _ _ (by simp)]
  exact push_at _ _ _ (by simp)
 have l2 : W6.heap[w.heap.size + 1 + 1]? = some (.map #[] 0) := by
  rw [h6, Below.heap_alloc _ _ _ (by simp <;> omega), Below.heap_alloc _ _ _ (by simp <;> omega), Below.heap_alloc _ _ _ (by simp)]
  exact push_at _ _ _ (by simp)
 have l1 : W6.heap[w.heap.size + 1]? = some (.cells #[.slice none 0 0] 29) := by
  rw [h6, Below.heap_alloc _ _ _ (by simp <;> omega), Below.heap_alloc _ _ _ (by simp <;> omega), Below.heap_alloc _ _ _ (by simp <;> omega), Below.heap_alloc _ _ _ (by simp)]
  exact push_at _ _ _ (by simp)
 have l0 : W6.heap[w.heap.size]? = some (.cells #[.slice A n c] 29) := by
  rw [h6, Below.heap_alloc _ _ _ (by simp <;> omega), Below.heap_alloc _ _ _ (by simp <;> omega), Below.heap_alloc _ _ _ (by simp <;> omega), Below.heap_alloc _ _ _ (by simp <;> omega), Below.heap_alloc _ _ _ (by simp)]
  exact push_at _ _ _ rfl
 have key : ∀ (o o2 : Obj) k, k < w.heap.size + 1 + 1 + 1 + 1 + 1 → ((W7.alloc o).alloc o2).heap[k]? = W6.heap[k]? := fun o o2 k hk => by
  rw [Below.heap_alloc _ _ _ (by simp; omega), Below.heap_alloc _ _ _ (by omega), g7.block k (by omega) (fun e => by have := Option.some.inj e; omega)]
 refine ⟨l5, hsz, ⟨(key _ _ _ (by omega)).trans l0, (key _ _ _ (by omega)).trans l3, (key _ _ _ (by omega)).trans l4, ?_, ?_⟩, (key _ _ _ (by omega)).trans l1, ⟨#[], 0, (key _ _ _ (by omega)).trans l2, by simp, fun i hi => absurd hi (Nat.not_lt_zero i)⟩⟩
 ·
  rw [Below.heap_alloc _ _ _ (by simp)]
  exact push_at _ _ _ rfl
 ·
  exact push_at _ _ _ (by simp)
set_option maxHeartbeats 3200000 in
theorem ordered_any (A : Option Addr) (c n j : Nat) (l : List Nd) (w : World) (h : Ns w A c l) (hn : l.length = n) (hn9 : n ≤ 990000) (hl : looseB l = true) (hj : j ≤ n) (hA : ∀ a, A = some a → a.block < w.heap.size) :
  Calls Try.prog 82 #[.slice A n c, .int .i64 (j : Int)] w fun e w' => ∃ v, e = .returned v ∧ OwnN w' w.heap.size v (enc (den l j) []).1 ∧ Below w.heap.size w w' := by
 have hcap := h.cap
 rw [hn] at hcap
 have HN := Lib.hid h
 have HL := Lib.hid hn
 have HLL := Lib.hid hl
 have HA := Lib.hid hA
 clear h hn hl hA
 have hmf : ∀ (fn : Fn) (first cap : Array Value) (w : World), (Instr.makeFunc fn first cap).run Try.prog w = .ok (.func fn first cap) w := fun _ _ _ _ => rfl
 have hmm := @run_makeMap Try.prog
 obtain ⟨W6, h6⟩ : ∃ W6 : World, W6 = ((((((w.alloc (.cells #[.slice A n c] 29)).alloc (.cells #[.slice none 0 0] 29)).alloc (.map #[] 0)).alloc (.cells #[.map (some (w.heap.size + 1 + 1))] 129)).alloc (.cells #[addF (w.heap.size + 1 + 1 + 1) (w.heap.size + 1)] 130)).alloc (.map #[] 0)) := ⟨_, rfl⟩
 have hm6 : W6.heap[w.heap.size + 1 + 1 + 1 + 1 + 1]? = some (.map #[] 0) := by
  rw [h6]
  exact push_at _ _ _ (by simp)
 obtain ⟨W7, hrun, m7, g7, s7⟩ := mm_first l W6 _ hm6
 obtain ⟨_, hs6, e7, c7, k7⟩ := env_start w A c n W6 W7 h6 g7 s7
 have H6 := Lib.hid h6
 have M7 := Lib.hid m7
 have G7 := Lib.hid g7
 have S7 := Lib.hid (s7.trans hs6)
 have E7 := Lib.hid e7
 have C7 := Lib.hid c7
 have K7 := Lib.hid k7
 have B6 := Lib.hid (show Below w.heap.size w W6 by rw [h6]; exact ((((((Below.refl w.heap.size w).alloc (Nat.le_refl _) _).alloc (by simp) _).alloc (by simp; omega) _).alloc (by simp; omega) _).alloc (by simp; omega) _).alloc (by simp; omega) _)
 rw [h6] at hrun
 have hrun2 : (Instr.mapUpdate 131 (.map (some (w.heap.size + 1 + 1 + 1 + 1 + 1))) (.int .i64 0) (.int .i64 0)).run Try.prog ((((((w.alloc (.cells #[.slice A n c] 29)).alloc (.cells #[.slice none 0 0] 29)).alloc (.map #[] 0)).alloc (.cells #[.map (some (w.heap.size + 1 + 1))] 129)).alloc (.cells #[.func (.func 106) #[] #[.pointer (some ⟨w.heap.size + 1 + 1 + 1, 0, none⟩), .pointer (some ⟨w.heap.size + 1, 0, none⟩)]] 130)).alloc (.map #[] 0)) = .ok () W7 := hrun
 clear hm6 m7 g7 s7 e7 c7 k7 hrun h6 hs6
 have q0 : True := trivial
 go_enter Try.func82, Try.ntmps82
 have hch := Lib.hid (show Chn A w.heap.size (w.heap.size + 1) (w.heap.size + 1 + 1) (w.heap.size + 1 + 1 + 1) (w.heap.size + 1 + 1 + 1 + 1) (w.heap.size + 1 + 1 + 1 + 1 + 1) W7.heap.size (W7.heap.size + 1) (W7.heap.size + 2) from ⟨HA.out, by have := S7.out; omega⟩)
 have hb9 : Below w.heap.size w ((W7.alloc (.cells #[.map (some (w.heap.size + 1 + 1 + 1 + 1 + 1))] 131)).alloc (.cells #[visF W7.heap.size w.heap.size (W7.heap.size + 1) (w.heap.size + 1 + 1 + 1 + 1)] 78)) :=
  (((B6.out.grown G7.out B6.out.size (fun k hk => by have h1 := Option.some.inj hk; omega)).alloc (by have := S7.out; omega) _).alloc (by have := S7.out; simp; omega) _)
 have HB9 := Lib.hid hb9
 have HN9 := Lib.hid (HN.out.below hb9)
 have hs9 : ((W7.alloc (.cells #[.map (some (w.heap.size + 1 + 1 + 1 + 1 + 1))] 131)).alloc (.cells #[visF W7.heap.size w.heap.size (W7.heap.size + 1) (w.heap.size + 1 + 1 + 1 + 1)] 78)).heap.size = W7.heap.size + 2 := by simp
 have HS9 := Lib.hid hs9
 have hst9 : Sta l ((W7.alloc (.cells #[.map (some (w.heap.size + 1 + 1 + 1 + 1 + 1))] 131)).alloc (.cells #[visF W7.heap.size w.heap.size (W7.heap.size + 1) (w.heap.size + 1 + 1 + 1 + 1)] 78)) (w.heap.size + 1) (w.heap.size + 1 + 1) (w.heap.size + 1 + 1 + 1 + 1 + 1) (W7.heap.size + 2) (.slice none 0 0) [] :=
  ⟨C7.out, ownN_none _ _, K7.out, M7.out.stay (by rw [Below.heap_alloc _ _ _ (by have := S7.out; simp; omega), Below.heap_alloc _ _ _ (by have := S7.out; omega)])⟩
 have HST9 := Lib.hid hst9
 clear hb9 hs9 hst9
 go_wp2_with (go_at_call 107; go_loud (refine (visit_rec A c n w.heap.size (w.heap.size + 1) (w.heap.size + 1 + 1) (w.heap.size + 1 + 1 + 1) (w.heap.size + 1 + 1 + 1 + 1) (w.heap.size + 1 + 1 + 1 + 1 + 1) W7.heap.size (W7.heap.size + 1) (W7.heap.size + 2) l HLL.out HL.out hn9 hch.out 1329 j [] (.slice none 0 0) _ hj (fun h0 => (fit_lv (loose_fit HLL.out (by rw [HL.out]; omega))).2) (inv_nil l) E7.out HN9.out HST9.out (Nat.le_of_eq HS9.out.symm)).mono ?_; rintro e w1 ⟨v', rfl, r1, r2, r3⟩; have R1 := Lib.hid r1; have R3 := Lib.hid r3; have cS := box_cell r1.s; clear r1 r2 r3))
 go_ret
 refine ⟨v', rfl, R1.out.o.mono (by have := S7.out; omega), ?_⟩
 refine HB9.out.trans (R3.out.to (by rw [HS9.out]; have := S7.out; omega) (fun k hk => ?_))
 rcases hk with h | h | h | h
 ·
  omega
 ·
  omega
 ·
  omega
 ·
  simp [Value.ownBlock] at h
end Go.Proofs.Ytlnmcilcifbcnaa
