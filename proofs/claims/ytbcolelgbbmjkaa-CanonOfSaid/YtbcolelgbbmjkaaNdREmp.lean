/-
  node: the reference's Empties, Empty.
-/
import Derived.Test.YtbcolelgbbmjkaaNdMap
import Derived.OwnWalk
import Derived.Maps.AppendAt
import Derived.Test.YtbcolelgbbmjkaaNdRLoose

namespace Go.Proofs.Ytbcolelgbbmjkaa
set_option linter.unusedVariables false
set_option linter.unusedSimpArgs false
open Go.RowKit Nds
theorem Try.infoT : (Try.prog.info? 4).map (fun i => (i.zero, i.size, i.bytes)) = some (some (.bool false), 1, 1) := by kernel_rfl
/-- Block g is a row of n bools, bs, made by the call. -/
def OwnT (w : World) (base g n : Nat) (bs : List Bool) : Prop :=
  bs.length = n ∧ w.ownsRow base 4 1 (.slice (some ⟨g, 0, none⟩) n n) n (bs.map Value.bool)
theorem OwnT.cell {w : World} {base g n : Nat} {bs : List Bool} (h : OwnT w base g n bs) {k : Nat} (hk : k < n) : w.cell? ⟨g, k, none⟩ = some (.bool (bs.getD k false)) := by
  have hl : k < bs.length := by have := h.1; omega
  rw [h.2.cellAt k (by omega), List.getElem?_map, List.getD_eq_getElem?_getD, List.getElem?_eq_getElem hl]
  rfl
theorem OwnT.free {w : World} {base g n : Nat} {bs : List Bool} (h : OwnT w base g n bs) (k : Nat) : w.frozen? ⟨g, k, none⟩ = false := h.2.frozenAt k
theorem OwnT.set {w : World} {base g n : Nat} {bs : List Bool} (h : OwnT w base g n bs) (k : Nat) (u : Bool) : OwnT (w.setCell ⟨g, k, none⟩ (.bool u)) base g n (bs.set k u) := by
  refine ⟨by simpa using h.1, ?_⟩
  rw [List.map_set]
  exact (h.2.stored k _).1
theorem madeT (n : Nat) : (madeCells (Value.cells (.bool false)) (n * 1)).toList = (List.replicate n false).map Value.bool := by
  rw [Nat.mul_one]
  refine List.ext_getElem (by simp [madeCells]) fun i h1 h2 => ?_
  simp [madeCells, Value.cells, Nat.mod_one]
theorem OwnT.made {w : World} {base g n : Nat} (h : w.ownsRow base 4 1 (.slice (some ⟨g, 0, none⟩) n n) n (madeCells (Value.cells (.bool false)) (n * 1)).toList) : OwnT w base g n (List.replicate n false) :=
  ⟨by simp, by rw [← madeT]; exact h⟩
theorem OwnT.lt {w : World} {base g n : Nat} {bs : List Bool} (h : OwnT w base g n bs) : g < w.heap.size := (h.2.lt g rfl).2
/-- What Empties leaves. -/
def RetT (l : List Nd) (n : Nat) (w : World) (e : Ending) (w' : World) : Prop :=
  ∃ g, e = .returned (.slice (some ⟨g, 0, none⟩) (n + 1) (n + 1)) ∧ w.heap.size ≤ g ∧ g < w'.heap.size ∧ (∀ j, j ≤ n → w'.cell? ⟨g, j, none⟩ = some (.bool (empB l j))) ∧ Below w.heap.size w w'
def eachTo (x : Nd) (p : Int → Bool) : Nat → Bool
  | 0 => true
  | q + 1 => eachTo x p q && p (x.kid q)
theorem eachTo_4 (x : Nd) (p : Int → Bool) : eachTo x p 4 = x.each p := by
  unfold Nd.each
  show ((((true && p x.a) && p x.b) && p x.c) && p x.d) = _
  rw [Bool.true_and]
def kidE (es : List Bool) (v c : Int) : Bool := c == 0 || (decide (1 < v) && es.getD c.toNat false)
set_option maxRecDepth 100000 in
set_option maxHeartbeats 3200000 in
theorem empties_any (A : Option Addr) (c n : Nat) (l : List Nd) (w : World) (h : Ns w A c l) (hn : l.length = n) (hl : looseB l = true) (hn9 : n ≤ 1000000) :
    Calls Try.prog 19 #[.slice A n c] w (RetT l n w) := by
  have hcap := h.cap
  rw [hn] at hcap
  obtain ⟨i0, hi, hz0, hz1, hz2⟩ := info_parts Try.infoT
  have HI := Lib.hid (And.intro hi (And.intro hz0 (And.intro hz1 hz2)))
  have HN := Lib.hid h
  have HL := Lib.hid hn
  have HLL := Lib.hid hl
  clear h hn hl hi hz0 hz1 hz2
  go_enter Try.func19, Try.ntmps19
  go_wp2_with (first
      | (at_make; refine wpList_make_full _ rfl _ _ 46 rfl w.heap.size 4 i0 _ 1 Try.underlying46 HI.out.1 HI.out.2.1 HI.out.2.2.1 .i64 .i64 _ _ (n + 1) rfl rfl (by omega) (by omega) (by rw [HI.out.2.2.2]; omega) (by unfold maxLen; omega) (Nat.le_refl _) ?_; intro w0 hown0 hgrow0; have own0 := OwnT.made hown0; have ec := own0.cell (k := 0) (by omega); have fc := own0.free 0; have OW := Lib.hid own0; have GW := Lib.hid hgrow0; clear hown0 hgrow0 own0))
  have HG0 := Lib.hid (show Below w.heap.size w (w0.setCell ⟨w.heap.size, 0, none⟩ (.bool true)) from ((Below.refl _ _).grown GW.out (Nat.le_refl _) (fun k hk => by cases hk)).setCell (Nat.le_refl _) _)
  have HO0 := Lib.hid (OW.out.set 0 true)
  have HT0 := Lib.hid (show ((List.replicate (n + 1) false).set 0 true).take (0 + 1) = emps (l.take 0) by simp [List.replicate_succ, emps])
  clear ec fc
  obtain ⟨g, hg⟩ : ∃ g, g = w.heap.size := ⟨_, rfl⟩
  have HG := Lib.hid hg
  rw [← hg] at HG0 HO0 ⊢
  generalize hW : w0.setCell _ _ = W at *
  clear hW
  go_loopw [4, 5, 6, 7] (fun i z1 z2 z3 wr => ∃ (k : Nat) (v1 v2 v3 : Value) (bs : List Bool), k ≤ n ∧ i = .int .i64 k ∧ z1 = v1 ∧ z2 = v2 ∧ z3 = v3 ∧ OwnT wr g g (n + 1) bs ∧ bs.take (k + 1) = emps (l.take k) ∧ Below g w wr) (fun i _ _ _ _ => n - (intOf i).toNat)
  case atStart => exact ⟨0, _, _, _, _, by omega, rfl, rfl, rfl, rfl, HO0.out, HT0.out, HG0.out⟩
  case round =>
    obtain ⟨k, v1, v2, v3, bs, hk, rfl, rfl, rfl, rfl, hown, htk, hbw⟩ := hrel
    have HO := Lib.hid hown
    have HT := Lib.hid htk
    clear hown htk
    by_cases hlt : k < n
    · obtain ⟨b, off, rfl, hb, hc⟩ := HN.out.at_ (by rw [HL.out]; omega)
      have hck := (hc k (by rw [HL.out]; exact hlt)).below (hbw.block b (by rw [HG.out]; exact hb))
      have HCK := Lib.hid hck
      have hkl : k < l.length := by rw [HL.out]; exact hlt
      have hfx := Lib.hid (loose_iff.1 HLL.out k hkl)
      obtain ⟨c1, -, -, -, -⟩ := id hck
      have HKL := Lib.hid hkl
      clear hc hck hkl
      obtain ⟨x, hx⟩ : ∃ x, x = at_ l k := ⟨_, rfl⟩
      rw [← hx] at c1 hfx HCK
      have HX := Lib.hid hx
      have hxv := fit_lv hfx.out
      have i1 : (k : Int) < (n : Int) := by omega
      clear hx hg
      go_wp2_with fail
      obtain ⟨wo, hwo⟩ : ∃ wo : World, wo = wr := ⟨_, rfl⟩
      subst hwo
      go_loop [6, 5, 7] (fun i z y => ∃ (q : Nat) (v : Value), q ≤ 4 ∧ i = .int .i64 q ∧ y = v ∧ z = .bool (eachTo x (kidE (emps (l.take k)) x.lv) q)) (fun i _ _ => 4 - (intOf i).toNat)
      case atStart => exact ⟨0, _, by omega, rfl, rfl, rfl⟩
      case round =>
        obtain ⟨q, v, hq, rfl, rfl, rfl⟩ := hrel
        by_cases hq4 : q < 4
        · have hy := HCK.out.kid hq4
          have hfk := fit_kid hfx.out hq4
          obtain ⟨y, hye⟩ : ∃ y, y = x.kid q := ⟨_, rfl⟩
          rw [← hye] at hy hfk
          have HY := Lib.hid hye
          have i2 : (q : Int) < 4 := by omega
          clear hye
          cases hbb : eachTo x (kidE (emps (l.take k)) x.lv) q with
          | false =>
            have HB := Lib.hid hbb
            clear hbb
            go_wp2_with fail
            go_round
            case rel =>
              refine ⟨q + 1, _, by omega, by go_num, rfl, ?_⟩
              show _ = Value.bool (eachTo x (kidE (emps (l.take k)) x.lv) q && kidE (emps (l.take k)) x.lv (x.kid q))
              rw [HB.out, Bool.false_and]
            case measure => simp [intOf]; omega
          | true =>
            have HB := Lib.hid hbb
            clear hbb
            by_cases hy0 : y = 0
            · subst hy0
              have HV := Lib.hid (show kidE (emps (l.take k)) x.lv 0 = true from rfl)
              clear hfk
              go_wp2_with fail
              go_round
              case rel =>
                refine ⟨q + 1, _, by omega, by go_num, rfl, ?_⟩
                show _ = Value.bool (eachTo x (kidE (emps (l.take k)) x.lv) q && kidE (emps (l.take k)) x.lv (x.kid q))
                rw [HB.out, ← HY.out, HV.out]; rfl
              case measure => simp [intOf]; omega
            · have t1 : (y == 0) = false := beq_eq_false_iff_ne.2 hy0
              by_cases hv1 : x.lv = 1
              · have HV := Lib.hid (show kidE (emps (l.take k)) x.lv y = false by unfold kidE; rw [t1, decide_eq_false (by omega)]; rfl)
                have t2 : decide (1 < x.lv) = false := decide_eq_false (by omega)
                clear hfk hy0 hv1
                go_wp2_with fail
                go_round
                case rel =>
                  refine ⟨q + 1, _, by omega, by go_num, rfl, ?_⟩
                  show _ = Value.bool (eachTo x (kidE (emps (l.take k)) x.lv) q && kidE (emps (l.take k)) x.lv (x.kid q))
                  rw [HB.out, ← HY.out, HV.out]; rfl
                case measure => simp [intOf]; omega
              · have t2 : decide (1 < x.lv) = true := decide_eq_true (by omega)
                rcases kid_up hv1 hfk with h0 | ⟨p, rfl, hp, _⟩
                · exact absurd h0 hy0
                · have hpk : p < k := Nat.lt_of_lt_of_le hp (List.length_take_le _ _)
                  have e1 : bs.getD (p + 1) false = (emps (l.take k)).getD (p + 1) false := by
                    rw [← HT.out, List.getD_eq_getElem?_getD, List.getD_eq_getElem?_getD, List.getElem?_take, if_pos (by omega)]
                  have ec := HO.out.cell (k := p + 1) (by omega)
                  rw [e1] at ec
                  have HV := Lib.hid (show kidE (emps (l.take k)) x.lv ((p : Int) + 1) = (emps (l.take k)).getD (p + 1) false by
                    unfold kidE
                    rw [t1, t2, show ((p : Int) + 1).toNat = p + 1 by omega]
                    rfl)
                  have i3 : (p : Int) + 1 < (n : Int) + 1 := by omega
                  clear hfk hy0 hv1 hp e1
                  generalize hz : (emps (l.take k)).getD (p + 1) false = z at *
                  clear hz
                  cases z with
                  | true =>
                    go_wp2_with fail
                    go_round
                    case rel =>
                      refine ⟨q + 1, _, by omega, by go_num, rfl, ?_⟩
                      show _ = Value.bool (eachTo x (kidE (emps (l.take k)) x.lv) q && kidE (emps (l.take k)) x.lv (x.kid q))
                      rw [HB.out, ← HY.out, HV.out]; rfl
                    case measure => simp [intOf]; omega
                  | false =>
                    go_wp2_with fail
                    go_round
                    case rel =>
                      refine ⟨q + 1, _, by omega, by go_num, rfl, ?_⟩
                      show _ = Value.bool (eachTo x (kidE (emps (l.take k)) x.lv) q && kidE (emps (l.take k)) x.lv (x.kid q))
                      rw [HB.out, ← HY.out, HV.out]; rfl
                    case measure => simp [intOf]; omega
        · have hq5 : q = 4 := by omega
          have HE := Lib.hid (show eachTo x (kidE (emps (l.take k)) x.lv) q = nodeE (emps (l.take k)) x by rw [hq5, eachTo_4]; rfl)
          have fc := HO.out.free (k + 1)
          have ec := HO.out.cell (k := k + 1) (by omega)
          have HS := Lib.hid (HO.out.set (k + 1) (nodeE (emps (l.take k)) x))
          rw [HE.out]
          clear hq5
          go_wp2_with fail
          go_roundw
          case rel =>
            refine ⟨k + 1, _, _, _, _, by omega, by go_num, rfl, rfl, rfl, HS.out, ?_, hbw.setCell (Nat.le_refl _) _⟩
            have hlen := HO.out.1
            rw [take_at HKL.out, emps_snoc, ← HX.out, ← HT.out, List.take_succ_eq_append_getElem (by simp; omega)]
            congr 1
            · rw [List.take_set_of_le (by omega)]
            · rw [List.getElem_set_self]
          case measure => simp [intOf]; omega
    · have hkn : k = n := by omega
      have HKN := Lib.hid hkn
      have hgl := HO.out.lt
      clear hkn hg
      go_wp2_with fail
      go_ret
      refine ⟨g, rfl, by rw [HG.out]; exact Nat.le_refl _, hgl, fun j hj => ?_, by rw [← HG.out]; exact hbw⟩
      rw [HO.out.cell (k := j) (by omega)]
      unfold empB
      have e1 := HT.out
      rw [HKN.out, List.take_of_length_le (by rw [HO.out.1]; omega), List.take_of_length_le (by rw [HL.out]; omega)] at e1
      rw [e1]
end Go.Proofs.Ytbcolelgbbmjkaa
