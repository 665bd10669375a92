/-
  canon: the reference's Nest.
-/
import Derived.Test.YtbcolelgbbmjkaaNcPO

namespace Go.Proofs.Ytbcolelgbbmjkaa
set_option linter.unusedVariables false
set_option linter.unusedSimpArgs false
open Go.RowKit Nds
theorem nest_snoc {l m : List Nd} {i : Nat} (hi : i < m.length) : l ++ (m.take i).map (shiftN l.length) ++ [shiftN l.length (at_ m i)] = l ++ (m.take (i + 1)).map (shiftN l.length) := by
  rw [take_at hi, List.map_append, List.append_assoc]
  rfl
theorem shiftK_in {m : List Nd} {v k : Int} {s : Nat} (h : kidB m v k = true) (hm : m.length ≤ 900000) (hs : s ≤ 900000) : in64 (shiftK v s k) ∧ (1 < v → 0 < k → k ≤ 900000) := by
  have h1 := kid_in64 h (by omega)
  unfold shiftK
  have key : 1 < v → 0 < k → k ≤ 900000 := fun hv hk => by
    rcases kid_up (by omega) h with e | ⟨r, e, hr, _⟩
    · omega
    · omega
  refine ⟨?_, key⟩
  split
  · rename_i h2
    have := key h2.1 h2.2
    exact ⟨by omega, by omega⟩
  · exact h1
set_option maxRecDepth 100000 in
set_option maxHeartbeats 6400000 in
theorem rnest_any (A B : Option Addr) (c d n p : Nat) (l m : List Nd) (w : World) (h : Ns w A c l) (g : Ns w B d m) (hn : l.length = n) (hp : m.length = p) (hn9 : n ≤ 900000) (hp9 : p ≤ 90000) (hA : A = none → c = 0) (hl : looseB m = true) :
    Calls Try.prog 12 #[.slice A n c, .slice B p d] w fun e w' => ∃ v, e = .returned v ∧ OwnN w' w.heap.size v (nestL l m) ∧ Below w.heap.size w w' := by
  have hcl := h.cap
  have hcm := g.cap
  rw [hn] at hcl
  rw [hp] at hcm
  have HN := Lib.hid h
  have HG := Lib.hid g
  have HL := Lib.hid hn
  have HP := Lib.hid hp
  have HA := Lib.hid hA
  have HLL := Lib.hid hl
  clear h g hn hp hA hl
  go_enter Try.func12, Try.ntmps12
  go_wp2_with (at_builtin; go_loud (refine wpList_append_nodes _ rfl _ _ rfl w.heap.size _ [] l A n c rfl rfl (OwnN.start _) (HN.out.below ((Below.refl _ w).alloc (Nat.le_refl _) _)) HL.out HA.out (by simp; omega) (by simp) ?_; intro v2 w2 ho2 hg2 hk2; rw [List.nil_append] at ho2; have HO := Lib.hid ho2; have HB := Lib.hid (((Below.refl _ w).alloc (Nat.le_refl _) _).grown hg2 (by simp) (fun k hk => by cases hk; exact Nat.le_refl _)); clear ho2 hg2 hk2))
  go_loopw [6, 5, 7, 8] (fun z1 z2 z3 z4 wr => ∃ (i : Nat) (v u3 u4 : Value), i ≤ p ∧ z1 = .int .i64 i ∧ v = z2 ∧ z3 = u3 ∧ z4 = u4 ∧ OwnN wr w.heap.size v (l ++ (m.take i).map (shiftN l.length)) ∧ Below w.heap.size w wr) (fun z1 _ _ _ _ => p - (intOf z1).toNat)
  case atStart => exact ⟨0, _, _, _, by omega, rfl, rfl, rfl, rfl, by rw [List.take_zero, List.map_nil, List.append_nil]; exact HO.out, HB.out⟩
  case round =>
    obtain ⟨i, v, u3, u4, hi, rfl, rfl, rfl, rfl, how, hbw⟩ := hrel
    have HW := Lib.hid how
    clear how
    by_cases hlt : i < p
    · obtain ⟨b, off, rfl, hb, hc⟩ := HG.out.at_ (by rw [HP.out]; omega)
      have him : i < m.length := by rw [HP.out]; exact hlt
      obtain ⟨c1, c2, c3, c4, c5⟩ := (hc i him).below (hbw.block b hb)
      have hf := loose_fit HLL.out him
      obtain ⟨x, hx⟩ : ∃ x, x = at_ m i := ⟨_, rfl⟩
      rw [← hx] at c1 c2 c3 c4 c5 hf
      have HX := Lib.hid hx
      have HF := Lib.hid hf
      have HIM := Lib.hid him
      have i1 : (i : Int) < (p : Int) := by omega
      clear hc hx hf him
      go_wp2_with fail
      obtain ⟨gx, hgx⟩ : ∃ gx, gx = wr.heap.size := ⟨_, rfl⟩
      obtain ⟨y, hy⟩ : ∃ y, y = shiftN n x := ⟨_, rfl⟩
      have HY := Lib.hid hy
      have HNB := Lib.hid (show NdBox (wr.alloc (.cells #[.int .i64 x.lv, .int .i64 x.a, .int .i64 x.b, .int .i64 x.c, .int .i64 x.d] 38)) gx (mix x y 0) by rw [hgx]; exact NdBox.new wr x)
      have HW5 := Lib.hid (HW.out.alloc (.cells #[.int .i64 x.lv, .int .i64 x.a, .int .i64 x.b, .int .i64 x.c, .int .i64 x.d] 38))
      have HB5 := Lib.hid (hbw.alloc hbw.size (.cells #[.int .i64 x.lv, .int .i64 x.a, .int .i64 x.b, .int .i64 x.c, .int .i64 x.d] 38))
      have HVX := Lib.hid (show v.ownBlock ≠ some gx from fun e => by have := (HW.out.lt gx e).2; omega)
      have HGX := Lib.hid (show w.heap.size ≤ gx by rw [hgx]; exact hbw.size)
      rw [← hgx]
      generalize hWW : World.alloc _ _ = W5 at *
      clear hWW hgx hy c1 c2 c3 c4 c5
      go_loopw [8] (fun z1 wr => ∃ (q : Nat), q ≤ 4 ∧ z1 = .int .i64 q ∧ NdBox wr gx (mix x y q) ∧ W5.grownBy wr (some gx)) (fun z1 _ => 4 - (intOf z1).toNat)
      case atStart => exact ⟨0, by omega, rfl, HNB.out, gb_refl _ _⟩
      case round =>
        obtain ⟨q, hq, rfl, hbx, hgr⟩ := hrel
        have HBQ := Lib.hid hbx
        have HGR := Lib.hid hgr
        clear hbx hgr
        by_cases hq4 : q < 4
        · have f1 : wr.cell? ⟨gx, 0, none⟩ = some (.int .i64 x.lv) := HBQ.out.at_.1
          have cz := HBQ.out.at_.kid hq4
          rw [mix_kid _ _ _ hq4, if_neg (Nat.lt_irrefl _), show 0 + 1 + q = 1 + q by omega] at cz
          have fz := HBQ.out.free (1 + q)
          have hyk : y.kid q = shiftK x.lv n (x.kid q) := by rw [HY.out, shiftN_kid _ _ hq4]
          have hin := shiftK_in (s := n) (fit_kid HF.out hq4) (by rw [HP.out]; omega) hn9
          obtain ⟨z, hz⟩ : ∃ z, z = x.kid q := ⟨_, rfl⟩
          rw [← hz] at cz hyk hin
          have HYK := Lib.hid hyk
          have HZ := Lib.hid hz
          have i2 : (q : Int) < 4 := by omega
          have i0 : (0 : Int) ≤ (q : Int) := by omega
          obtain ⟨-, hbnd⟩ := hin
          clear hyk hz
          by_cases hgo : 1 < x.lv ∧ 0 < z
          · obtain ⟨h1, h2⟩ := hgo
            have h3 := hbnd h1 h2
            have t1 : decide (1 < x.lv) = true := decide_eq_true h1
            have t2 : decide (0 < z) = true := decide_eq_true h2
            have HE := Lib.hid (show y.kid q = z + n by rw [HYK.out]; unfold shiftK; rw [if_pos ⟨h1, h2⟩])
            clear hbnd
            go_wp2_with fail
            go_roundw
            case rel => exact ⟨q + 1, by omega, by go_num, HBQ.out.setKid hq4 (by omega) HE.out.symm, gb_trans HGR.out (gb_setCell _ _ _)⟩
            case measure => simp [intOf]; omega
          · have HE := Lib.hid (show y.kid q = x.kid q by rw [HYK.out, ← HZ.out]; unfold shiftK; rw [if_neg hgo])
            have hcase : ¬ 1 < x.lv ∨ (1 < x.lv ∧ ¬ 0 < z) := by
              by_cases h : 1 < x.lv
              · exact .inr ⟨h, fun h2 => hgo ⟨h, h2⟩⟩
              · exact .inl h
            clear hgo hbnd
            rcases hcase with h1 | ⟨h1, h2⟩
            · have t1 : decide (1 < x.lv) = false := decide_eq_false h1
              go_wp2_with fail
              go_roundw
              case rel => exact ⟨q + 1, by omega, by go_num, by rw [mix_skip hq4 HE.out]; exact HBQ.out, HGR.out⟩
              case measure => simp [intOf]; omega
            · have t1 : decide (1 < x.lv) = true := decide_eq_true h1
              have t2 : decide (0 < z) = false := decide_eq_false h2
              go_wp2_with fail
              go_roundw
              case rel => exact ⟨q + 1, by omega, by go_num, by rw [mix_skip hq4 HE.out]; exact HBQ.out, HGR.out⟩
              case measure => simp [intOf]; omega
        · have hq5 : q = 4 := by omega
          subst hq5
          rw [mix_four (show x.lv = y.lv by rw [HY.out]; rfl)] at HBQ
          obtain ⟨f1, f2, f3, f4, f5⟩ := HBQ.out.at_
          have hwy : y.wf := by
            have hv := fit_lv HF.out
            have key : ∀ q, q < 4 → in64 (shiftK x.lv n (x.kid q)) := fun q hq => (shiftK_in (fit_kid HF.out hq) (by rw [HP.out]; omega) hn9).1
            rw [HY.out]
            exact ⟨⟨by show _ ≤ x.lv; omega, by show x.lv ≤ _; omega⟩, key 0 (by omega), key 1 (by omega), key 2 (by omega), key 3 (by omega)⟩
          have HWY := Lib.hid hwy
          have HOQ := Lib.hid (HW5.out.gbr HGR.out (.inr HVX.out))
          have HBR := Lib.hid (HB5.out.grown HGR.out HB5.out.size (fun k hk => by cases hk; exact HGX.out))
          have HLN := Lib.hid (show (l ++ (m.take i).map (shiftN l.length)).length + 1 ≤ 1000000 by
            rw [List.length_append, List.length_map, List.length_take, HL.out]
            omega)
          clear hwy
          go_wp2_with (at_builtin; go_loud (refine wpList_append_nodes _ rfl _ _ rfl w.heap.size _ _ [y] _ 1 1 rfl rfl (HOQ.out.alloc _) (ns_lit1 _ _ y HWY.out rfl) rfl (fun e => by cases e) HLN.out (by have := HBR.out.size; simp; omega) ?_; intro v6 w6 ho6 hg6 hk6; have HO6 := Lib.hid ho6; have HG6 := Lib.hid hg6; clear ho6 hg6 hk6))
          go_roundw
          case rel =>
            refine ⟨i + 1, v6, _, _, by omega, by go_num, rfl, rfl, rfl, ?_, ?_⟩
            · have h1 := HO6.out
              rw [HY.out, HX.out, ← HL.out, nest_snoc HIM.out] at h1
              exact h1
            · exact (HBR.out.alloc HBR.out.size _).grown HG6.out (by have := HBR.out.size; simp; omega) (fun k hk => (HOQ.out.lt k hk).1)
          case measure => simp [intOf]; omega
    · have e : i = p := by omega
      have HE := Lib.hid (show l ++ (m.take i).map (shiftN l.length) = nestL l m by rw [e, ← HP.out, List.take_of_length_le (Nat.le_refl _)]; rfl)
      clear e
      go_wp2_with fail
      go_ret
      exact ⟨v, rfl, by rw [← HE.out]; exact HW.out, hbw⟩
end Go.Proofs.Ytbcolelgbbmjkaa
