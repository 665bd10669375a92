/-
  node: the reference's end, Right.
-/
import Derived.Test.YtbcolelgbbmjkaaNdRHol
import Derived.Test.YtbcolelgbbmjkaaNdRight
import Derived.Test.YtbcolelgbbmjkaaNdSame

namespace Go.Proofs.Ytbcolelgbbmjkaa
set_option linter.unusedVariables false
set_option linter.unusedSimpArgs false
open Go.RowKit Nds
theorem Try.infoI : (Try.prog.info? 3).map (fun i => (i.zero, i.size, i.bytes)) = some (some (.int .i64 0), 1, 8) := by kernel_rfl
def OwnI (w : World) (base : Nat) (v : Value) (xs : List Nat) : Prop := w.ownsRow base 3 1 v xs.length (xs.map fun k : Nat => Value.int .i64 (k : Int))
theorem OwnI.shape {w : World} {base : Nat} {v : Value} {xs : List Nat} (h : OwnI w base v xs) : ∃ A c, v = .slice A xs.length c ∧ xs.length ≤ c ∧ c ≤ 9223372036854775807 ∧
    (0 < xs.length → ∃ g, A = some ⟨g, 0, none⟩ ∧ ∀ j, j < xs.length → w.cell? ⟨g, j, none⟩ = some (.int .i64 ((xs.getD j 0 : Nat) : Int))) := by
  rcases h.2 with ⟨h', hn⟩ | ⟨g, cap, cur, h', hb, hg, hnc, hcm, hcs, htake⟩
  · exact ⟨none, 0, by rw [h', hn], by omega, by omega, fun h => by omega⟩
  · simp only [maxLen] at hcm
    refine ⟨some ⟨g, 0, none⟩, cap, h', hnc, by omega, fun _ => ⟨g, rfl, fun j hj => ?_⟩⟩
    subst h'
    rw [h.cellAt j (by omega), List.getElem?_map, List.getD_eq_getElem?_getD, List.getElem?_eq_getElem hj]
    rfl
theorem OwnI.nil (w : World) (base : Nat) : OwnI w base (.slice none 0 0) [] := World.ownsRow_nil w base _ 1
theorem OwnI.none {w : World} {base : Nat} (h : True) : OwnI w base (.slice none 0 0) [] := OwnI.nil w base
theorem own_block {w : World} {base : Nat} {v : Value} {xs : List Nat} (h : OwnI w base v xs) : ∀ k, v.ownBlock = some k → base ≤ k := fun k hk => (h.lt k hk).1
/-- What end leaves. -/
def RetL (out : List Nat) (base : Nat) (w : World) (e : Ending) (w' : World) : Prop := ∃ v, e = .returned v ∧ OwnI w' base v out ∧ Below base w w'
def foldIf (l : List Nd) (m : Nat) (x : Nd) (out : List Nat) (q : Nat) : List Nat := if 1 < x.lv then foldL (endL l m) x out q else out
set_option maxRecDepth 100000 in
set_option maxHeartbeats 3200000 in
theorem end_rec (A : Option Addr) (c n base : Nat) (l : List Nd) (hl : looseB l = true) (hn : l.length = n) (hn9 : n ≤ 1000000) (hA : ∀ a, A = some a → a.block < base) : ∀ (m p : Nat) (out : List Nat) (v : Value) (w : World),
    p < n → (at_ l p).lv ≤ m → out.Nodup → (∀ x ∈ out, 0 < x ∧ x ≤ l.length) → Ns w A c l → OwnI w base v out → base ≤ w.heap.size →
    Calls Try.prog 21 #[.slice A n c, .int .i64 ((p : Int) + 1), v] w (RetL (endL l m (p + 1) out) base w) := by
  have HLL := Lib.hid hl
  have HL := Lib.hid hn
  have HA := Lib.hid hA
  clear hl hn hA
  intro m
  induction m with
  | zero =>
    intro p out v w hp hm
    have := fit_lv (loose_iff.1 HLL.out p (by rw [HL.out]; exact hp))
    omega
  | succ m ih =>
    intro p out v w hp hm hnd hin hN hown hbase
    have hcap := hN.cap
    rw [HL.out] at hcap
    have hol : out.length ≤ n := by rw [← HL.out]; exact nodup_le _ _ hnd hin
    have hpl : p < l.length := by rw [HL.out]; exact hp
    obtain ⟨A2, c2, rfl, hc2, hc3, hread⟩ := hown.shape
    have HN := Lib.hid hN
    have HO := Lib.hid hown
    have HND := Lib.hid hnd
    have HIN := Lib.hid hin
    have HRD := Lib.hid hread
    have HPL := Lib.hid hpl
    obtain ⟨b, off, rfl, hb, hc⟩ := hN.at_ (by omega)
    have hbb : b < base := HA.out _ rfl
    have hck := hc p hpl
    have HCK := Lib.hid hck
    have hfx := Lib.hid (loose_iff.1 HLL.out p hpl)
    have i1 : (p : Int) < (n : Int) := by omega
    clear hN hown hnd hin hread hpl hc hck
    obtain ⟨x, hx⟩ : ∃ x, x = at_ l p := ⟨_, rfl⟩
    rw [← hx] at hfx HCK hm
    have HX := Lib.hid hx
    have hxv := fit_lv hfx.out
    clear hx
    obtain ⟨R, hR⟩ : ∃ R, R = endL l (m + 1) (p + 1) out := ⟨_, rfl⟩
    rw [← hR]
    have HR := Lib.hid hR
    clear hR
    obtain ⟨i0, hi, hz0, hz1, hz2⟩ := info_parts Try.infoI
    have HI := Lib.hid (And.intro hi (And.intro hz0 (And.intro hz1 hz2)))
    clear hi hz0 hz1 hz2
    obtain ⟨ol, hol2⟩ : ∃ ol, ol = out.length := ⟨_, rfl⟩
    rw [← hol2] at hol hc2 ⊢
    have HOL := Lib.hid hol2
    clear hol2
    go_enter Try.func21, Try.ntmps21
    go_wp2_with fail
    go_loop [7] (fun i => ∃ (k : Nat), k ≤ ol ∧ i = .int .i64 k ∧ ∀ j, j < k → out.getD j 0 ≠ p + 1) (fun i => ol - (intOf i).toNat)
    case atStart => exact ⟨0, by omega, rfl, fun j hj => by omega⟩
    case round =>
      obtain ⟨k, hk, rfl, hne⟩ := hrel
      have HNE := Lib.hid hne
      clear hne
      by_cases hlt : k < ol
      · obtain ⟨g, rfl, hcs⟩ := HRD.out (by rw [← HOL.out]; omega)
        have ce := hcs k (by rw [← HOL.out]; exact hlt)
        clear hcs
        obtain ⟨u, hu⟩ : ∃ u : Nat, u = out.getD k 0 := ⟨_, rfl⟩
        rw [← hu] at ce
        have HU := Lib.hid hu
        have i2 : (k : Int) < (ol : Int) := by omega
        clear hu
        by_cases hup : u = p + 1
        · have t1 : ((u : Int) == (p : Int) + 1) = true := by rw [hup]; simp
          have HUP := Lib.hid hup
          clear hup
          go_wp2_with fail
          refine bodyPost_ret (v := .slice (some ⟨g, 0, none⟩) ol c2) (by simp [results, Try.results21, go_sem]) rfl ⟨_, by rw [HOL.out], ?_, Below.refl _ _⟩
          have hmem : p + 1 ∈ out := by
            rw [← HUP.out, HU.out, List.getD_eq_getElem?_getD, List.getElem?_eq_getElem (by rw [← HOL.out]; exact hlt)]
            exact List.getElem_mem _
          rw [HR.out, endL_in hmem]
          exact HO.out
        · have t1 : ((u : Int) == (p : Int) + 1) = false := beq_eq_false_iff_ne.2 (by omega)
          have HUP := Lib.hid hup
          clear hup
          go_wp2_with fail
          go_round
          case rel =>
            refine ⟨k + 1, by omega, by go_num, fun j hj => ?_⟩
            rcases Nat.lt_or_ge j k with h1 | h1
            · exact HNE.out j h1
            · rw [show j = k by omega, ← HU.out]; exact HUP.out
          case measure => simp [intOf]; omega
      · have hnot : p + 1 ∉ out := by
          intro hm2
          obtain ⟨j, hj⟩ := List.mem_iff_getElem?.1 hm2
          have hjl := (List.getElem?_eq_some_iff.1 hj).1
          refine HNE.out j (by rw [← HOL.out] at hjl; omega) ?_
          rw [List.getD_eq_getElem?_getD, hj]
          rfl
        have HNT := Lib.hid hnot
        clear hnot
        go_wp2_with fail
        obtain ⟨v0, hv0⟩ : ∃ v0, v0 = Value.slice A2 ol c2 := ⟨_, rfl⟩
        have HO2 := Lib.hid (show OwnI w base v0 out by rw [hv0, HOL.out]; exact HO.out)
        rw [← hv0]
        clear hv0
        go_loopw [8, 2] (fun i z wr => ∃ (q : Nat) (v : Value), q ≤ 4 ∧ i = .int .i64 q ∧ v = z ∧ OwnI wr base v (foldIf l m x out q) ∧ Below base w wr) (fun i _ _ => 4 - (intOf i).toNat)
        case atStart =>
          refine ⟨0, _, by omega, rfl, rfl, ?_, Below.refl _ _⟩
          unfold foldIf
          split <;> exact HO2.out
        case round =>
          obtain ⟨q, v, hq, rfl, rfl, how, hbw⟩ := hrel
          have HW := Lib.hid how
          clear how
          have hckr := HCK.out.below (hbw.block b hbb)
          have c1 := hckr.1
          by_cases hq4 : q < 4
          · have i3 : (q : Int) < 4 := by omega
            by_cases hlv : 1 < x.lv
            · have t2 : decide (1 < x.lv) = true := decide_eq_true hlv
              have hyc := hckr.kid hq4
              have hfk := fit_kid hfx.out hq4
              obtain ⟨y, hy⟩ : ∃ y, y = x.kid q := ⟨_, rfl⟩
              rw [← hy] at hyc hfk
              have HY := Lib.hid hy
              clear hy hckr
              rcases kid_up (by omega) hfk with rfl | ⟨r, rfl, hr, hrl⟩
              · have HS := Lib.hid (show foldIf l m x out (q + 1) = foldIf l m x out q by
                  unfold foldIf
                  rw [if_pos hlv, if_pos hlv]
                  show stepL _ _ _ = _
                  unfold stepL
                  rw [← HY.out, if_neg (by omega)])
                clear hfk hlv
                go_wp2_with fail
                go_roundw
                case rel => exact ⟨q + 1, _, by omega, by go_num, rfl, by rw [HS.out]; exact HW.out, hbw⟩
                case measure => simp [intOf]; omega
              · have t3 : decide ((0 : Int) < (r : Int) + 1) = true := decide_eq_true (by omega)
                have hrp : r < p := Nat.lt_of_lt_of_le hr (List.length_take_le _ _)
                have hr2 : (at_ l r).lv ≤ (m : Int) := by
                  rw [at_take hrp] at hrl
                  omega
                have HS := Lib.hid (show foldIf l m x out (q + 1) = endL l m (r + 1) (foldIf l m x out q) by
                  unfold foldIf
                  rw [if_pos hlv, if_pos hlv]
                  show stepL _ _ _ = _
                  unfold stepL
                  rw [← HY.out, if_pos (by omega), show ((r : Int) + 1).toNat = r + 1 by omega])
                have hfn : (foldIf l m x out q).Nodup ∧ ∀ y ∈ foldIf l m x out q, 0 < y ∧ y ≤ l.length := by
                  unfold foldIf
                  rw [if_pos hlv]
                  have hx1 : x = at_ l (p + 1 - 1) := HX.out
                  refine ⟨foldL_nodup HLL.out (n := p + 1) (by omega) (by have := HPL.out; omega) (by rw [← hx1]; exact hlv) HND.out hx1 q hq, fun y hy => ?_⟩
                  rw [hx1] at hy
                  rcases foldL_mem HLL.out (n := p + 1) (by omega) (by have := HPL.out; omega) (by rw [← hx1]; exact hlv) q hq y hy with h | h
                  · exact HIN.out y h
                  · exact ⟨h.1, by have := HPL.out; omega⟩
                have HFN := Lib.hid hfn
                have HNr := Lib.hid (show Ns wr (some ⟨b, off, none⟩) c l from HN.out.belowB HA.out hbw)
                have hbr : base ≤ wr.heap.size := Nat.le_trans hbase hbw.size
                clear hfk hlv hr hrl hfn
                go_wp2_with (go_at_call 21; refine (ih r _ v _ (by omega) hr2 HFN.out.1 HFN.out.2 HNr.out HW.out hbr).mono ?_; rintro e w1 ⟨v1, rfl, ho1, hb1⟩; have HO1 := Lib.hid ho1; have HB1 := Lib.hid hb1; clear ho1 hb1)
                go_roundw
                case rel => exact ⟨q + 1, _, by omega, by go_num, rfl, by rw [HS.out]; exact HO1.out, hbw.trans HB1.out⟩
                case measure => simp [intOf]; omega
            · have t2 : decide (1 < x.lv) = false := decide_eq_false hlv
              have HS := Lib.hid (show foldIf l m x out (q + 1) = foldIf l m x out q by
                unfold foldIf
                rw [if_neg hlv, if_neg hlv])
              clear hlv hckr
              go_wp2_with fail
              go_roundw
              case rel => exact ⟨q + 1, _, by omega, by go_num, rfl, by rw [HS.out]; exact HW.out, hbw⟩
              case measure => simp [intOf]; omega
          · have hq5 : q = 4 := by omega
            have HE := Lib.hid (show R = foldIf l m x out q ++ [p + 1] by
              rw [HR.out, hq5]
              unfold endL foldIf
              rw [if_neg HNT.out, show p + 1 - 1 = p by omega, ← HX.out])
            have hfl : (foldIf l m x out q).length + 1 ≤ n := by
              have h1 := end_len HLL.out (m := m + 1) (n := p + 1) (out := out) (by omega) (by have := HPL.out; omega) HND.out HIN.out
              rw [← HR.out, HE.out, List.length_append, HL.out] at h1
              simpa using h1
            have hob := own_block HW.out
            have HOB := Lib.hid hob
            have hbr : base ≤ wr.heap.size := Nat.le_trans hbase hbw.size
            obtain ⟨fl, hfl2⟩ : ∃ fl, fl = (foldIf l m x out q).length := ⟨_, rfl⟩
            have HFL := Lib.hid hfl2
            rw [← hfl2] at hfl
            have how : wr.ownsRow base 3 1 v fl ((foldIf l m x out q).map fun k : Nat => Value.int .i64 (k : Int)) := by rw [hfl2]; exact HW.out
            have HW2 := Lib.hid how
            clear hq5 hob hckr hfl2 how
            go_wp2_with (at_builtin; refine wpList_append_own_at _ rfl _ _ 43 rfl base 3 i0 (.int .i64 0) 1 8 Try.underlying43 HI.out.1 HI.out.2.1 HI.out.2.2.1 HI.out.2.2.2 rfl (by decide) _ _ _ rfl (HW2.out.alloc _) ⟨_, 0, none⟩ 1 1 [.int .i64 ((p : Int) + 1)] rfl rfl (cell_one_new _ _ _) (by simp [Value.oneCell']) (by simp only [maxLen]; omega) (by omega) (by simp; omega) ?_; intro v2 w3 ho3 hg3 hn3 hk3; have HO3 := Lib.hid ho3; have HG3 := Lib.hid hg3; clear ho3 hg3 hn3 hk3)
            go_ret
            refine ⟨v2, rfl, ?_, (hbw.alloc hbr _).grown HG3.out (by simp; omega) HOB.out⟩
            rw [HE.out]
            unfold OwnI
            rw [List.map_append, List.length_append, ← HFL.out]
            exact HO3.out
end Go.Proofs.Ytbcolelgbbmjkaa
