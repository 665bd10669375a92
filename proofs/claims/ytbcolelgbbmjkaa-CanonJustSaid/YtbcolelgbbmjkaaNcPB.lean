/-
  canon: bared.
-/
import Derived.Test.YtbcolelgbbmjkaaNcPA

namespace Go.Proofs.Ytbcolelgbbmjkaa
set_option linter.unusedVariables false
set_option linter.unusedSimpArgs false
open Go.RowKit Nds
/-- A node with one kid put. -/
def setK (x : Nd) (k : Nat) (u : Int) : Nd := match k with | 0 => { x with a := u } | 1 => { x with b := u } | 2 => { x with c := u } | _ => { x with d := u }
theorem setK_mix {x y : Nd} {q : Nat} (hq : q < 4) : setK (mix x y q) q (y.kid q) = mix x y (q + 1) := by
  match q, hq with
  | 0, _ => rfl
  | 1, _ => rfl
  | 2, _ => rfl
  | 3, _ => rfl
theorem setK_wf {x : Nd} (h : x.wf) (k : Nat) {u : Int} (hu : in64 u) : (setK x k u).wf := by
  obtain ⟨h0, h1, h2, h3, h4⟩ := h
  match k with
  | 0 => exact ⟨h0, hu, h2, h3, h4⟩
  | 1 => exact ⟨h0, h1, hu, h3, h4⟩
  | 2 => exact ⟨h0, h1, h2, hu, h4⟩
  | _ + 3 => exact ⟨h0, h1, h2, h3, hu⟩
theorem ndcs_set : ∀ (l : List Nd) (i k : Nat) (u : Int), i < l.length → k < 4 → (ndcs l).set (i * 5 + 1 + k) (.int .i64 u) = ndcs (l.set i (setK (at_ l i) k u))
  | [], i, k, u, hi, _ => by simp at hi
  | x :: l, 0, k, u, _, hk => by
    show (ndc x ++ ndcs l).set (0 * 5 + 1 + k) _ = ndc (setK x k u) ++ ndcs l
    match k, hk with
    | 0, _ => rfl
    | 1, _ => rfl
    | 2, _ => rfl
    | 3, _ => rfl
  | x :: l, i + 1, k, u, hi, hk => by
    show (ndc x ++ ndcs l).set ((i + 1) * 5 + 1 + k) _ = ndc x ++ ndcs (l.set i (setK (at_ l i) k u))
    rw [List.set_append_right _ _ (by show 5 ≤ _; omega), ← ndcs_set l i k u (by simpa using hi) hk]
    congr 2
    show (i + 1) * 5 + 1 + k - 5 = _
    omega
theorem OwnN.form {w : World} {base : Nat} {v : Value} {l : List Nd} (h : OwnN w base v l) (h0 : 0 < l.length) : ∃ g cap, v = .slice (some ⟨g, 0, none⟩) l.length cap := by
  rcases h.2.2 with ⟨h', hn⟩ | ⟨g, cap, cur, h', _⟩
  · omega
  · exact ⟨g, cap, h'⟩
theorem OwnN.setKid {w : World} {base g n cap : Nat} {l : List Nd} (h : OwnN w base (.slice (some ⟨g, 0, none⟩) n cap) l) (hn : l.length = n) {i k o : Nat} {u : Int} (hi : i < n) (hk : k < 4) (ho : o = i * 5 + 1 + k) (hu : in64 u) :
    OwnN (w.setCell ⟨g, o, none⟩ (.int .i64 u)) base (.slice (some ⟨g, 0, none⟩) n cap) (l.set i (setK (at_ l i) k u)) := by
  subst hn
  subst ho
  refine ⟨fun x hx => ?_, ?_⟩
  · rcases List.mem_or_eq_of_mem_set hx with hx | rfl
    · exact h.1 x hx
    · exact setK_wf (h.1 _ (at_mem hi)) k hu
  · have := (h.2.stored (i * 5 + 1 + k) (.int .i64 u)).1
    rw [ndcs_set l i k u hi hk] at this
    rw [List.length_set]
    exact this
theorem OwnN.freeAt {w : World} {base g n cap : Nat} {l : List Nd} (h : OwnN w base (.slice (some ⟨g, 0, none⟩) n cap) l) (hn : l.length = n) (j : Nat) : w.frozen? ⟨g, j, none⟩ = false := by
  subst hn
  exact h.2.frozenAt j
theorem at_set_self {l : List Nd} {i : Nat} {x : Nd} (hi : i < l.length) : at_ (l.set i x) i = x := by
  unfold at_
  rw [List.getElem?_set_self hi]
  rfl
theorem at_set_ne {l : List Nd} {i j : Nat} {x : Nd} (h : i ≠ j) : at_ (l.set i x) j = at_ l j := by
  unfold at_
  rw [List.getElem?_set_ne h]
/-- The first so many are done. -/
def bp (l : List Nd) (i : Nat) : List Nd := (l.take i).map (bareN l) ++ l.drop i
theorem bp_len {l : List Nd} {i : Nat} (hi : i ≤ l.length) : (bp l i).length = l.length := by
  unfold bp
  rw [List.length_append, List.length_map, List.length_take, List.length_drop]
  omega
theorem bp_lo {l : List Nd} {i j : Nat} (hi : i ≤ l.length) (hj : j < i) : at_ (bp l i) j = bareN l (at_ l j) := by
  unfold bp at_
  have h1 : j < ((l.take i).map (bareN l)).length := by rw [List.length_map, List.length_take]; omega
  rw [List.getElem?_append_left h1, List.getElem?_map, List.getElem?_take, if_pos hj, List.getElem?_eq_getElem (by omega)]
  rfl
theorem bp_hi {l : List Nd} {i j : Nat} (hi : i ≤ l.length) (hj : i ≤ j) : at_ (bp l i) j = at_ l j := by
  unfold bp at_
  have h1 : ((l.take i).map (bareN l)).length = i := by rw [List.length_map, List.length_take]; omega
  rw [List.getElem?_append_right (by omega), h1, List.getElem?_drop, show i + (j - i) = j by omega]
theorem bp_full (l : List Nd) : bp l l.length = bareL l := by
  unfold bp bareL
  rw [List.take_of_length_le (Nat.le_refl _), List.drop_eq_nil_of_le (Nat.le_refl _), List.append_nil]
theorem bp_set {l : List Nd} {i : Nat} (hi : i < l.length) : (bp l i).set i (bareN l (at_ l i)) = bp l (i + 1) := by
  refine nd_lists (by rw [List.length_set, bp_len (by omega), bp_len (by omega)]) fun j hj => ?_
  by_cases e : i = j
  · subst e
    rw [at_set_self (by rw [bp_len (by omega)]; exact hi), bp_lo (by omega) (by omega)]
  · rw [at_set_ne e]
    rcases Nat.lt_or_ge j i with h1 | h1
    · rw [bp_lo (by omega) h1, bp_lo (by omega) (by omega)]
    · rw [bp_hi (by omega) h1, bp_hi (by omega) (by omega)]
theorem bp_mix0 {l : List Nd} {i : Nat} (hi : i < l.length) (y : Nd) : (bp l i).set i (mix (at_ l i) y 0) = bp l i := by
  rw [mix_zero]
  refine nd_lists (by rw [List.length_set]) fun j hj => ?_
  by_cases e : i = j
  · subst e
    rw [at_set_self (by rw [bp_len (by omega)]; exact hi), bp_hi (by omega) (Nat.le_refl _)]
  · rw [at_set_ne e]
theorem bp_mixS {l : List Nd} {i q : Nat} (hi : i < l.length) (hq : q < 4) (y : Nd) : ((bp l i).set i (mix (at_ l i) y q)).set i (setK (at_ ((bp l i).set i (mix (at_ l i) y q)) i) q (y.kid q)) = (bp l i).set i (mix (at_ l i) y (q + 1)) := by
  rw [at_set_self (by rw [bp_len (by omega)]; exact hi), setK_mix hq, List.set_set]
theorem hcn_cell {w : World} {base g n cap : Nat} {l : List Nd} (h : OwnN w base (.slice (some ⟨g, 0, none⟩) n cap) l) (hn : l.length = n) {i k : Nat} (hi : i < n) (hk : k < 4) : ∃ u, w.cell? ⟨g, i * 5 + 1 + k, none⟩ = some (.int .i64 u) := by
  subst hn
  obtain ⟨A, c, hv, hn, -, -⟩ := h.shape
  injection hv with e1 e2 e3
  subst e1
  obtain ⟨b, off, e, _, hc⟩ := hn.at_ (by omega)
  cases e
  have := (hc i hi).kid hk
  rw [Nat.zero_add] at this
  exact ⟨_, this⟩
set_option maxRecDepth 100000 in
set_option maxHeartbeats 3200000 in
theorem bared_any (A : Option Addr) (c n : Nat) (l : List Nd) (w : World) (h : Ns w A c l) (hn : l.length = n) (hn9 : n ≤ 990000) (hl : looseB l = true) (hA : A = none → c = 0) :
    Calls Try.prog 24 #[.slice A n c] w fun e w' => ∃ v, e = .returned v ∧ OwnN w' w.heap.size v (bareL l) ∧ Below w.heap.size w w' := by
  have hcap := h.cap
  rw [hn] at hcap
  have HN := Lib.hid h
  have HL := Lib.hid hn
  have HLL := Lib.hid hl
  have HA := Lib.hid hA
  clear h hn hl hA
  go_enter Try.func24, Try.ntmps24
  go_wp2_with (go_at_call 22; go_loud (refine (clone_any _ _ n l _ HN.out HL.out hn9 HA.out).mono ?_; rintro e w1 ⟨v, rfl, o1, b1⟩; have HO := Lib.hid o1; have HB := Lib.hid b1; obtain ⟨A2, c2, hv, hn2, hA2, hB2⟩ := o1.shape; rw [HL.out] at hv; have hc2 := hn2.cap; rw [HL.out] at hc2; subst hv; clear o1 b1 hn2 hA2 hB2))
  have hbs : w.heap.size ≤ w1.heap.size := HB.out.size
  go_loopw [12, 4, 5, 6, 7] (fun z1 z2 z3 z4 z5 wr => ∃ (i : Nat) (u2 u3 u4 u5 : Value), i ≤ n ∧ z1 = .int .i64 i ∧ z2 = u2 ∧ z3 = u3 ∧ z4 = u4 ∧ z5 = u5 ∧ OwnN wr w.heap.size (.slice A2 n c2) (bp l i) ∧ Below w.heap.size w wr) (fun z1 _ _ _ _ _ => n - (intOf z1).toNat)
  case atStart => exact ⟨0, _, _, _, _, by omega, rfl, rfl, rfl, rfl, rfl, HO.out, HB.out⟩
  case round =>
    obtain ⟨i, u2, u3, u4, u5, hi, rfl, rfl, rfl, rfl, rfl, how, hbw⟩ := hrel
    have HW := Lib.hid how
    clear how
    by_cases hlt : i < n
    · have hil : i < l.length := by rw [HL.out]; exact hlt
      obtain ⟨g, hga⟩ : ∃ g, A2 = some ⟨g, 0, none⟩ := by
        obtain ⟨g, cap, hf⟩ := HW.out.form (by rw [bp_len (by omega)]; omega)
        injection hf with h1
        exact ⟨g, h1⟩
      subst hga
      have hbl := bp_len (l := l) (i := i) (by omega)
      obtain ⟨b, off, rfl, hb, hc⟩ := HN.out.at_ (by omega)
      have hf := loose_fit HLL.out hil
      have hft := loose_iff.1 HLL.out i hil
      have hbx := bp_hi (l := l) (i := i) (j := i) (by omega) (Nat.le_refl _)
      obtain ⟨A3, c3, hv3, hn3, -, -⟩ := HW.out.shape
      injection hv3 with e1 e2 e3
      subst e1
      subst e3
      obtain ⟨g', off', ee, hg', hcc⟩ := hn3.at_ (by omega)
      cases ee
      obtain ⟨c1, c2', c3', c4, c5⟩ := hcc i (by omega)
      rw [hbx] at c1 c2' c3' c4 c5
      rw [Nat.zero_add] at c1 c2' c3' c4 c5
      have hbm := bp_mix0 hil (bareN l (at_ l i))
      have hbs2 := bp_set hil
      have hmx : mix (at_ l i) (bareN l (at_ l i)) 4 = bareN l (at_ l i) := mix_four rfl
      have hbm3 := fun q (hq : q < 4) => bp_mixS hil hq (bareN l (at_ l i))
      obtain ⟨x, hx⟩ : ∃ x, x = at_ l i := ⟨_, rfl⟩
      rw [← hx] at c1 c2' c3' c4 c5 hf hft hbm hbs2 hmx hbm3
      have HX := Lib.hid hx
      have HF := Lib.hid hf
      have HFT := Lib.hid hft
      have HBM := Lib.hid hbm
      have HBS := Lib.hid hbs2
      have HMX := Lib.hid hmx
      have HB3 := Lib.hid hbm3
      have HBL := Lib.hid hbl
      have i1 : (i : Int) < (n : Int) := by omega
      have hgl : w.heap.size ≤ g := (HW.out.lt g rfl).1
      clear hb hc hf hft hbx hcc hg' hbm hbs2 hmx hbm3 hx hn3 hbl
      by_cases h1 : x.lv = 1
      · have HO := Lib.hid h1
        have t1 : (x.lv == 1) = true := by rw [beq_iff_eq]; exact h1
        clear h1
        go_wp2_with fail
        go_roundw
        case rel =>
          refine ⟨i + 1, _, _, _, _, by omega, by go_num, rfl, rfl, rfl, rfl, ?_, hbw.alloc hbw.size _⟩
          rw [← HBS.out, bare_one HO.out]
          have := HBM.out
          rw [mix_zero] at this
          rw [this]
          exact HW.out.alloc _
        case measure => simp [intOf]; omega
      · have t1 : (x.lv == 1) = false := beq_eq_false_iff_ne.2 h1
        have HO1 := Lib.hid h1
        go_wp2_with fail
        have HW5 := Lib.hid (HW.out.alloc (.cells #[.int .i64 x.lv, .int .i64 x.a, .int .i64 x.b, .int .i64 x.c, .int .i64 x.d] 38))
        have HB5 := Lib.hid (hbw.alloc hbw.size (.cells #[.int .i64 x.lv, .int .i64 x.a, .int .i64 x.b, .int .i64 x.c, .int .i64 x.d] 38))
        generalize hWW : World.alloc _ _ = W5 at *
        clear hWW c1 c2' c3' c4 c5
        go_loopw [22, 6, 7] (fun z1 z2 z3 wr => ∃ (q : Nat) (v2 v3 : Value), q ≤ 4 ∧ z1 = .int .i64 q ∧ z2 = v2 ∧ z3 = v3 ∧ OwnN wr w.heap.size (.slice (some ⟨g, 0, none⟩) n c2) ((bp l i).set i (mix x (bareN l x) q)) ∧ Below w.heap.size w wr) (fun z1 _ _ _ => 4 - (intOf z1).toNat)
        case atStart => exact ⟨0, _, _, by omega, rfl, rfl, rfl, by rw [HBM.out]; exact HW5.out, HB5.out⟩
        case round =>
          obtain ⟨q, v2, v3, hq, rfl, rfl, rfl, hor, hbr⟩ := hrel
          have HR := Lib.hid hor
          have HBR := Lib.hid hbr
          by_cases hq4 : q < 4
          · have hidx := index4 x q hq4
            have hfk := fit_kid HFT.out hq4
            have hbk := bareN_kid l x hq4
            obtain ⟨y, hy⟩ : ∃ y, y = x.kid q := ⟨_, rfl⟩
            rw [← hy] at hidx hfk hbk
            have HY := Lib.hid hy
            have HBK := Lib.hid hbk
            have i2 : (q : Int) < 4 := by omega
            have i0 : (0 : Int) ≤ (q : Int) := by omega
            have hskip : bareK l x.lv y = y → (bp l i).set i (mix x (bareN l x) (q + 1)) = (bp l i).set i (mix x (bareN l x) q) := fun h => by
              rw [mix_skip hq4 (by rw [HBK.out, h, HY.out])]
            have HSK := Lib.hid hskip
            clear hy hbk hskip hor hbr
            rcases kid_up h1 hfk with rfl | ⟨r, rfl, hr, hrl⟩
            · have hb0 : bareK l x.lv 0 = 0 := by
                unfold bareK
                split <;> rfl
              have HB0 := Lib.hid hb0
              clear hb0 hfk
              go_wp2_with fail
              go_roundw
              case rel => exact ⟨q + 1, _, _, by omega, by go_num, rfl, rfl, by rw [HSK.out HB0.out]; exact HR.out, HBR.out⟩
              case measure => simp [intOf]; omega
            · have hri : r < i := Nat.lt_of_lt_of_le hr (List.length_take_le _ _)
              have hrl2 : r < l.length := by omega
              have hrn : r < n := by rw [← HL.out]; exact hrl2
              have hcl : ((bp l i).set i (mix x (bareN l x) q)).length = n := by rw [List.length_set, HBL.out, HL.out]
              obtain ⟨A6, c6, hv6, hn6, -, -⟩ := HR.out.shape
              injection hv6 with e1 e2 e3
              subst e1
              obtain ⟨g', off', ee, hg', hcc⟩ := hn6.at_ (by omega)
              cases ee
              obtain ⟨-, d2, d3, d4, d5⟩ := hcc r (by omega)
              have hwr := hn6.wf (i := r) (by omega)
              rw [at_set_ne (by omega), bp_lo (by omega) hri, Nat.zero_add] at d2 d3 d4 d5
              rw [at_set_ne (by omega), bp_lo (by omega) hri] at hwr
              have hbe := bare_each (loose_fit HLL.out hrl2)
              rw [← den_loose HLL.out hrl2] at hbe
              obtain ⟨z, hz⟩ : ∃ z, z = bareN l (at_ l r) := ⟨_, rfl⟩
              rw [← hz] at d2 d3 d4 d5 hwr hbe
              have hq4e := eql_four z hwr
              have t2 : (((r : Int) + 1) != 0) = true := by rw [bne_iff_ne]; omega
              have i3 : (r : Int) < (n : Int) := by omega
              have HCL := Lib.hid hcl
              clear hz hwr hcc hg' hfk hcl hn6
              cases hE : (den l (r + 1)).isE with
              | false =>
                have hbb : bareK l x.lv ((r : Int) + 1) = (r : Int) + 1 := by
                  unfold bareK
                  rw [show ((r : Int) + 1).toNat = r + 1 by omega, if_neg (fun h => by rw [hE] at h; cases h.2)]
                have HBB := Lib.hid hbb
                rw [hbe, hE] at hq4e
                clear hbb hbe hE
                go_wp2_with fail
                go_roundw
                case rel => exact ⟨q + 1, _, _, by omega, by go_num, rfl, rfl, by rw [HSK.out HBB.out]; exact HR.out, HBR.out⟩
                case measure => simp [intOf]; omega
              | true =>
                have hbb : (bareN l x).kid q = 0 := by
                  rw [HBK.out]
                  unfold bareK
                  rw [show ((r : Int) + 1).toNat = r + 1 by omega, if_pos ⟨h1, hE⟩]
                have HBB := Lib.hid hbb
                rw [hbe, hE] at hq4e
                have fz := HR.out.freeAt HCL.out (i * 5 + 1 + q)
                have hnx := hcn_cell HR.out HCL.out hlt hq4
                obtain ⟨uu, hnx⟩ := hnx
                clear hbb hbe hE
                go_wp2_with fail
                go_roundw
                case rel =>
                  refine ⟨q + 1, _, _, by omega, by go_num, rfl, rfl, ?_, HBR.out.setCell hgl _⟩
                  have := HR.out.setKid HCL.out hlt hq4 rfl in64_0
                  rw [← HB3.out q hq4, HBB.out]
                  exact this
                case measure => simp [intOf]; omega
          · have hq5 : q = 4 := by omega
            subst hq5
            clear hor hbr
            go_wp2_with fail
            go_roundw
            case rel =>
              refine ⟨i + 1, _, _, _, _, by omega, by go_num, rfl, rfl, rfl, rfl, ?_, HBR.out⟩
              have := HR.out
              rw [HMX.out, HBS.out] at this
              exact this
            case measure => simp [intOf]; omega
    · have e : i = n := by omega
      subst e
      have HIN := Lib.hid HL.out
      go_wp2_with fail
      go_ret
      refine ⟨_, rfl, ?_, hbw⟩
      have := HW.out
      have e2 : bp l i = bareL l := by rw [← HIN.out, bp_full]
      rw [e2] at this
      exact this
end Go.Proofs.Ytbcolelgbbmjkaa
