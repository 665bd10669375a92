/-
  canon: the reference's Shrink.
-/
import Derived.Test.YtbcolelgbbmjkaaNcRA

namespace Go.Proofs.Ytbcolelgbbmjkaa
set_option linter.unusedVariables false
set_option linter.unusedSimpArgs false
open Go.RowKit Nds
/-- What Shrink leaves. -/
def RetS (l : List Nd) (k : Nat) (w : World) (e : Ending) (w' : World) : Prop :=
  ∃ v cur j, e = .returned (.tuple #[v, .int .i64 ((j : Nat) : Int)]) ∧ OwnN w' w.heap.size v cur ∧ looseB cur = true ∧ j ≤ cur.length ∧ den cur j = shrT (den l k) ∧ cur.length ≤ l.length + 1329 ∧ Below w.heap.size w w'
def lenOf : Value → Nat | .slice _ n _ => n | _ => 0
theorem OwnN.len {w : World} {base : Nat} {v : Value} {l : List Nd} (h : OwnN w base v l) : lenOf v = l.length := by
  obtain ⟨A, c, rfl, _⟩ := h.shape
  rfl
theorem OwnN.stays {w w' : World} {base : Nat} {v : Value} {l : List Nd} (h : OwnN w base v l) (hb : Below w.heap.size w w') : OwnN w' base v l :=
  h.gbr (row := none) ⟨hb.os, hb.tape, hb.output, hb.size, fun i hi _ => hb.block i hi⟩ (by
    cases hv : v.ownBlock
    · exact .inl rfl
    · exact .inr (by simp))
/-- Where the reference's Shrink stands. -/
def SS (l : List Nd) (t : Tr) (cur : List Nd) (p : Nat) : Prop := looseB cur = true ∧ p < cur.length ∧ den cur (p + 1) ≠ .e ∧ shrT (den cur (p + 1)) = t ∧ (cur.length : Int) + (at_ cur p).lv ≤ l.length + 1329
theorem SS.start {l : List Nd} (hl : looseB l = true) {p : Nat} (hp : p < l.length) (hne : den l (p + 1) ≠ .e) : SS l (shrT (den l (p + 1))) l p := by
  have := fit_lv (loose_fit hl hp)
  exact ⟨hl, hp, hne, rfl, by omega⟩
theorem SS.next {l cur : List Nd} {t : Tr} {p : Nat} (h : SS l t cur p) (hh : holT (den cur (p + 1)) = true) : SS l t (cur ++ [innN cur (at_ cur p)]) cur.length := by
  obtain ⟨h1, h2, h3, h4, h5⟩ := h
  obtain ⟨s1, s2, s3, s4⟩ := shr_list h1 h2 hh
  refine ⟨s1, by simp, by rw [s2]; exact s3, by rw [s2, s4]; exact h4, ?_⟩
  rw [at_last]
  show (((cur ++ [_]).length : Nat) : Int) + ((at_ cur p).lv - 1) ≤ _
  rw [List.length_append]
  show ((cur.length + 1 : Nat) : Int) + _ ≤ _
  omega
theorem SS.len {l cur : List Nd} {t : Tr} {p : Nat} (h : SS l t cur p) : cur.length ≤ l.length + 1328 := by
  obtain ⟨h1, h2, h3, h4, h5⟩ := h
  have := fit_lv (loose_fit h1 h2)
  omega
set_option maxRecDepth 100000 in
set_option maxHeartbeats 3200000 in
theorem rshrink_any (A : Option Addr) (c n : Nat) (l : List Nd) (k : Nat) (w : World) (h : Ns w A c l) (hn : l.length = n) (hl : looseB l = true) (hn9 : n ≤ 900000) (hA : A = none → c = 0) (hk : k ≤ n) :
    Calls Try.prog 17 #[.slice A n c, .int .i64 (k : Int)] w (RetS l k w) := by
  have hcap := h.cap
  rw [hn] at hcap
  have HN := Lib.hid h
  have HL := Lib.hid hn
  have HLL := Lib.hid hl
  have HA := Lib.hid hA
  have q0 : True := trivial
  have hemp := empB_den hl (n := k) (by omega)
  clear h hn hl hA
  by_cases he : den l k = .e
  · have HE := Lib.hid he
    rw [he] at hemp
    have HM := Lib.hid (show empB l k = true from hemp)
    clear he hemp
    go_enter Try.func17, Try.ntmps17
    go_wp2_with (first
      | (have _t := q0; at_builtin; clear _t; go_loud (refine wpList_append_nodes _ rfl _ _ rfl w.heap.size _ [] l A n c rfl rfl (OwnN.start _) (HN.out.below ((Below.refl _ w).alloc (Nat.le_refl _) _)) HL.out HA.out (by simp; omega) (by simp) ?_; intro v2 w2 ho2 hg2 hk2; rw [List.nil_append] at ho2; have HO := Lib.hid ho2; obtain ⟨A2, c2, hv2, hn2, hA2, hB2⟩ := ho2.shape; rw [HL.out] at hv2; subst hv2; have HN2 := Lib.hid hn2; have HB := Lib.hid (((Below.refl _ w).alloc (Nat.le_refl _) _).grown hg2 (by simp) (fun k hk => by cases hk; exact Nat.le_refl _)); clear ho2 hg2 hk2 hn2 hA2 hB2; have q1 := q0; clear q0))
      | (have _t := q1; go_at_call 29; clear _t; go_loud (refine (rempty_any _ _ n l k _ HN2.out HL.out HLL.out (by omega) hk).mono ?_; rintro e w3 ⟨rfl, b3⟩; have HB3 := Lib.hid b3; clear b3; rw [HM.out]; have q2 := q1; clear q1)))
    go_ret2
    refine ⟨.slice A2 n c2, l, 0, rfl, ?_, HLL.out, Nat.zero_le _, ?_, by omega, HB.out.trans (HB3.out.mono HB.out.size)⟩
    · exact HO.out.stays HB3.out
    · rw [den_zero, HE.out, shr_e]
  · obtain ⟨p, rfl⟩ : ∃ p, k = p + 1 := ⟨k - 1, by have : k ≠ 0 := fun e => he (by rw [e]; exact den_zero l); omega⟩
    have HM := Lib.hid (show empB l (p + 1) = false by rw [hemp]; exact isE_no.2 he)
    have HS0 := Lib.hid (SS.start HLL.out (by rw [HL.out]; omega) he)
    clear he hemp
    go_enter Try.func17, Try.ntmps17
    go_wp2_with (first
      | (have _t := q0; at_builtin; clear _t; go_loud (refine wpList_append_nodes _ rfl _ _ rfl w.heap.size _ [] l A n c rfl rfl (OwnN.start _) (HN.out.below ((Below.refl _ w).alloc (Nat.le_refl _) _)) HL.out HA.out (by simp; omega) (by simp) ?_; intro v2 w2 ho2 hg2 hk2; rw [List.nil_append] at ho2; have HO := Lib.hid ho2; obtain ⟨A2, c2, hv2, hn2, hA2, hB2⟩ := ho2.shape; rw [HL.out] at hv2; subst hv2; have HN2 := Lib.hid hn2; have HB := Lib.hid (((Below.refl _ w).alloc (Nat.le_refl _) _).grown hg2 (by simp) (fun k hk => by cases hk; exact Nat.le_refl _)); clear ho2 hg2 hk2 hn2 hA2 hB2; have q1 := q0; clear q0))
      | (have _t := q1; go_at_call 29; clear _t; go_loud (refine (rempty_any _ _ n l (p + 1) _ HN2.out HL.out HLL.out (by omega) hk).mono ?_; rintro e w3 ⟨rfl, b3⟩; have HB3 := Lib.hid b3; clear b3; rw [HM.out]; have q2 := q1; clear q1)))
    obtain ⟨v0, hv0⟩ : ∃ v0, v0 = Value.slice A2 n c2 := ⟨_, rfl⟩
    have HO3 := Lib.hid (show OwnN w3 w.heap.size v0 l by rw [hv0]; exact HO.out.stays HB3.out)
    have HBA := Lib.hid (HB.out.trans (HB3.out.mono HB.out.size))
    rw [← hv0]
    clear hv0
    go_loopw [6, 1, 7, 8] (fun z1 z2 z3 z4 wr => ∃ (cur : List Nd) (r : Nat) (v u1 u2 : Value), v = z1 ∧ z2 = .int .i64 ((r : Int) + 1) ∧ z3 = u1 ∧ z4 = u2 ∧ OwnN wr w.heap.size v cur ∧ SS l (shrT (den l (p + 1))) cur r ∧ Below w.heap.size w wr) (fun z1 _ _ _ _ => n + 2000 - lenOf z1)
    case atStart => exact ⟨l, p, _, _, _, rfl, by simp, rfl, rfl, HO3.out, HS0.out, HBA.out⟩
    case round =>
      obtain ⟨cur, r, v, u1, u2, rfl, rfl, rfl, rfl, how, hss, hbw⟩ := hrel
      have HS := Lib.hid hss
      have HW := Lib.hid how
      have hlen := hss.len
      rw [HL.out] at hlen
      obtain ⟨A3, c3, rfl, hn3, hA3, hB3⟩ := how.shape
      have HN3 := Lib.hid hn3
      have HA3 := Lib.hid hA3
      have HB4 := Lib.hid hB3
      obtain ⟨g1, g2, g3, g4, g5⟩ := hss
      have hhol := hollow_den g1 g2 g3
      obtain ⟨cn, hcn⟩ : ∃ cn, cn = cur.length := ⟨_, rfl⟩
      rw [← hcn] at g2 hlen ⊢
      have HCN := Lib.hid hcn
      have G1 := Lib.hid g1
      have G3 := Lib.hid g3
      have G4 := Lib.hid g4
      clear how hn3 hA3 hB3 g1 g3 g4 g5 hcn
      cases hh : holT (den cur (r + 1)) with
      | false =>
        have HH := Lib.hid hh
        rw [hh] at hhol
        have HHO := Lib.hid hhol
        clear hh hhol
        go_wp2_with (go_at_call 20; go_loud (refine (rhollow_any _ _ cn cur (r + 1) _ HN3.out HCN.out.symm G1.out (by omega) (by omega)).mono ?_; rintro e w4 ⟨rfl, b4⟩; have HB5 := Lib.hid b4; clear b4; rw [HHO.out]))
        go_ret2
        have hcn := HCN.out
        have hll := HL.out
        refine ⟨.slice A3 cn c3, cur, r + 1, rfl, ?_, G1.out, by omega, ?_, by omega, hbw.trans (HB5.out.mono hbw.size)⟩
        · rw [hcn]
          exact HW.out.stays HB5.out
        · rw [← G4.out, shr_done HH.out]
      | true =>
        have HH := Lib.hid hh
        rw [hh] at hhol
        have HHO := Lib.hid hhol
        have hlv := (hol_lv G1.out (by rw [← HCN.out]; exact g2) hh).1
        clear hh hhol
        obtain ⟨b, off, rfl, hb, hc⟩ := HN3.out.at_ (by rw [← HCN.out]; omega)
        have c1 := (hc r (by rw [← HCN.out]; exact g2)).1
        have HLV := Lib.hid hlv
        have HBB := Lib.hid hb
        obtain ⟨x, hx⟩ : ∃ x, x = at_ cur r := ⟨_, rfl⟩
        rw [← hx] at c1 hlv
        have HX := Lib.hid hx
        have hfx := fit_lv (loose_fit G1.out (i := r) (by rw [← HCN.out]; exact g2))
        rw [← hx] at hfx
        have i1 : (r : Int) < (cn : Int) := by omega
        clear hc hb hx
        go_wp2_with (go_at_call 20; go_loud (refine (rhollow_any _ _ cn cur (r + 1) _ HN3.out HCN.out.symm G1.out (by omega) (by omega)).mono ?_; rintro e w4 ⟨rfl, b4⟩; have HB5 := Lib.hid b4; have c1 := (World.cell?_of_block (w := wr) (a := ⟨b, off + r * 5, none⟩) (b4.block b HBB.out)).trans c1; clear b4; rw [HHO.out]))
        have HBW4 := Lib.hid (hbw.trans (HB5.out.mono hbw.size))
        have HW4 := Lib.hid (HW.out.stays HB5.out)
        have HN4 := Lib.hid (HN3.out.below HB5.out)
        obtain ⟨g, hg⟩ : ∃ g, g = w4.heap.size := ⟨_, rfl⟩
        have hbox : NdBox (w4.alloc (.cells #[.int .i64 (x.lv - 1), .int .i64 0, .int .i64 0, .int .i64 0, .int .i64 0] 38)) g (mix ⟨x.lv - 1, 0, 0, 0, 0⟩ (innN cur x) 0) := by rw [hg]; exact NdBox.new w4 ⟨x.lv - 1, 0, 0, 0, 0⟩
        have HBOX := Lib.hid hbox
        have HG5 := Lib.hid (World.grownBy_alloc w4 (.cells #[.int .i64 (x.lv - 1), .int .i64 0, .int .i64 0, .int .i64 0, .int .i64 0] 38) (some g))
        have HGB := Lib.hid (show b < g by rw [hg]; exact Nat.lt_of_lt_of_le HBB.out HB5.out.size)
        have HGW := Lib.hid (show w.heap.size ≤ g by rw [hg]; exact HBW4.out.size)
        have HGO := Lib.hid hg
        rw [← hg]
        generalize hWW : w4.alloc _ = W at *
        clear hWW hg hbox c1
        go_loopw [8] (fun i wq => ∃ (q : Nat), q ≤ 4 ∧ i = .int .i64 q ∧ NdBox wq g (mix ⟨x.lv - 1, 0, 0, 0, 0⟩ (innN cur x) q) ∧ w4.grownBy wq (some g)) (fun i _ => 4 - (intOf i).toNat)
        case atStart => exact ⟨0, by omega, rfl, HBOX.out, HG5.out⟩
        case round =>
          obtain ⟨q, hq, rfl, hbq, hgq⟩ := hrel
          have HBQ := Lib.hid hbq
          have HGQ := Lib.hid hgq
          have HNQ := Lib.hid (HN4.out.gbr hgq (fun a ea e => by cases ea; exact absurd (Option.some.inj e) (Nat.ne_of_lt HGB.out)))
          clear hbq hgq
          by_cases hq4 : q < 4
          · have i2 : (q : Int) < 4 := by omega
            have i3 : (0 : Int) ≤ (q : Int) := by omega
            have hfz := HBQ.out.free (1 + q)
            have hce := HBQ.out.at_.kid hq4
            have e1 : 0 + 1 + q = 1 + q := by omega
            rw [e1] at hce
            generalize (mix ⟨x.lv - 1, 0, 0, 0, 0⟩ (innN cur x) q).kid q = z at hce
            clear e1
            go_wp2_with (go_at_call 30; go_loud (refine (rinner_any _ _ cn cur r q _ HNQ.out HCN.out.symm G1.out g2 HLV.out hq4).mono ?_; rintro e w5 ⟨rfl, rfl⟩; rw [← HX.out]))
            go_roundw
            case rel =>
              refine ⟨q + 1, by omega, by go_num, HBQ.out.setKid hq4 (by omega) (innN_kid cur x hq4).symm, gb_trans HGQ.out (gb_setCell _ _ _)⟩
            case measure => simp [intOf]; omega
          · have hq5 : q = 4 := by omega
            subst hq5
            rw [mix_four (show (⟨x.lv - 1, 0, 0, 0, 0⟩ : Nd).lv = (innN cur x).lv from rfl)] at HBQ
            obtain ⟨f1, f2, f3, f4, f5⟩ := HBQ.out.at_
            have HSN := Lib.hid (HS.out.next HH.out)
            rw [← HX.out] at HSN
            obtain ⟨y, hy⟩ : ∃ y, y = innN cur x := ⟨_, rfl⟩
            rw [← hy] at f1 f2 f3 f4 f5 HSN
            have hwy : y.wf := by
              have h1 := (inn_step G1.out (p := r) (by rw [← HCN.out]; exact g2) HLV.out G3.out).1
              rw [← HX.out, ← hy] at h1
              exact fit_wf h1 (by rw [← HCN.out]; omega)
            have HWY := Lib.hid hwy
            have HOQ := Lib.hid (show OwnN wr w.heap.size (.slice (some ⟨b, off, none⟩) cn c3) cur by
              have h1 := HW4.out.gbr HGQ.out (.inr (fun e => absurd (Option.some.inj e) (Nat.ne_of_lt HGB.out)))
              rw [HCN.out]
              exact h1)
            have hgs : w.heap.size ≤ wr.heap.size := Nat.le_trans HBW4.out.size HGQ.out.size
            clear hwy hy
            go_wp2_with (at_builtin; go_loud (refine wpList_append_nodes _ rfl _ _ rfl w.heap.size _ cur [y] _ 1 1 rfl rfl (HOQ.out.alloc _) (ns_lit1 _ _ y HWY.out rfl) rfl (fun e => by cases e) (by rw [← HCN.out]; omega) (by simp; omega) ?_; intro v6 w6 ho6 hg6 hk6; obtain ⟨A6, c6, hv6, -, -, -⟩ := ho6.shape; have HO6 := Lib.hid ho6; have HG6 := Lib.hid hg6; have HK6 := Lib.hid hk6; subst hv6; clear ho6 hg6 hk6))
            go_roundw
            case rel =>
              refine ⟨cur ++ [y], cur.length, .slice A6 (cur ++ [y]).length c6, _, _, (by simp), ?_, rfl, rfl, HO6.out, HSN.out, ?_⟩
              · simp
              · refine ((HBW4.out.grown HGQ.out HBW4.out.size (fun k hk => by cases hk; exact HGW.out)).alloc hgs _).grown HG6.out (by simp; omega) (fun k hk => (HOQ.out.lt k hk).1)
            case measure =>
              have hcn := HCN.out
              simp [lenOf]
              omega
end Go.Proofs.Ytbcolelgbbmjkaa
