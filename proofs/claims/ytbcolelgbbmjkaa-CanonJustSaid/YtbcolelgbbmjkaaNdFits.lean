/-
  node: fits, Loose; the reference's Loose.
-/
import Derived.Test.YtbcolelgbbmjkaaNdMem
import Derived.Test.YtbcolelgbbmjkaaNdsE
import Derived.StillTailTactics
import Derived.Deep.RegionHeld3

namespace Go.Proofs.Ytbcolelgbbmjkaa
set_option linter.unusedVariables false
set_option linter.unusedSimpArgs false
open Go.RowKit Nds
/-- A quarter of four. -/
theorem index4_0 (a b c d : Int) (w : World) : (Instr.index 36 (.agg #[.int .i64 a, .int .i64 b, .int .i64 c, .int .i64 d]) (.int .i64 0)).run Try.prog w = .ok (.int .i64 a) w := by kernel_rfl
theorem index4_1 (a b c d : Int) (w : World) : (Instr.index 36 (.agg #[.int .i64 a, .int .i64 b, .int .i64 c, .int .i64 d]) (.int .i64 1)).run Try.prog w = .ok (.int .i64 b) w := by kernel_rfl
theorem index4_2 (a b c d : Int) (w : World) : (Instr.index 36 (.agg #[.int .i64 a, .int .i64 b, .int .i64 c, .int .i64 d]) (.int .i64 2)).run Try.prog w = .ok (.int .i64 c) w := by kernel_rfl
theorem index4_3 (a b c d : Int) (w : World) : (Instr.index 36 (.agg #[.int .i64 a, .int .i64 b, .int .i64 c, .int .i64 d]) (.int .i64 3)).run Try.prog w = .ok (.int .i64 d) w := by kernel_rfl
theorem index4 (x : Nd) (k : Nat) (hk : k < 4) (w : World) :
    (Instr.index 36 (.agg #[.int .i64 x.a, .int .i64 x.b, .int .i64 x.c, .int .i64 x.d]) (.int .i64 (k : Int))).run Try.prog w = .ok (.int .i64 (x.kid k)) w := by
  match k, hk with
  | 0, _ => exact index4_0 _ _ _ _ w
  | 1, _ => exact index4_1 _ _ _ _ w
  | 2, _ => exact index4_2 _ _ _ _ w
  | 3, _ => exact index4_3 _ _ _ _ w
theorem fitB_no {l : List Nd} {x : Nd} (h : ¬ (1 ≤ x.lv ∧ x.lv ≤ 1329)) : fitB l x = false := by
  unfold fitB
  rw [decide_eq_false h]
  rfl
theorem fitB_kid {l : List Nd} {x : Nd} {k : Nat} (hk : k < 4) (h : kidB l x.lv (x.kid k) = false) : fitB l x = false := by
  unfold fitB
  rw [Bool.and_eq_false_iff]
  right
  rw [← Bool.not_eq_true, each_iff]
  intro h2
  have := h2 k hk
  rw [h] at this
  cases this
theorem fitB_yes {l : List Nd} {x : Nd} (h : 1 ≤ x.lv ∧ x.lv ≤ 1329) (h2 : ∀ k, k < 4 → kidB l x.lv (x.kid k) = true) : fitB l x = true := by
  unfold fitB
  rw [decide_eq_true h, each_iff.2 h2]
  rfl
set_option maxRecDepth 100000 in
set_option maxHeartbeats 1600000 in
theorem fits_any (A : Option Addr) (c : Nat) (l : List Nd) (x : Nd) (w : World) (h : Ns w A c l) (hx : x.wf) :
    Calls Try.prog 26 #[.slice A l.length c, ndv x] w fun e w' => e = .returned (.bool (fitB l x)) ∧ Below w.heap.size w w' := by
  have hx1 := hx.1.1
  have hx2 := hx.1.2
  have hi := index4 x
  obtain ⟨R, hR⟩ : ∃ R, R = fitB l x := ⟨_, rfl⟩
  rw [← hR]
  have HR := Lib.hid hR
  have HI := Lib.hid hi
  have HN := Lib.hid h
  have HX := Lib.hid hx
  clear hR hi h hx
  by_cases hv : 1 ≤ x.lv ∧ x.lv ≤ 1329
  · obtain ⟨hv1, hv2⟩ := hv
    go_enter Try.func26, Try.ntmps26
    go_wp2
    go_loop [17, 6] (fun i z => ∃ (k : Nat) (v : Value), k ≤ 4 ∧ i = .int .i64 k ∧ z = v ∧ ∀ j, j < k → kidB l x.lv (x.kid j) = true) (fun i _ => 4 - (intOf i).toNat)
    case atStart => exact ⟨0, _, by omega, rfl, rfl, fun j hj => by omega⟩
    case round =>
      obtain ⟨k, v, hk, rfl, rfl, hall⟩ := hrel
      have HA := Lib.hid hall
      clear hall
      by_cases hlt : k < 4
      · have hi := HI.out k hlt
        have hw := HX.out.kid k
        generalize hq : x.kid k = q at *
        have HQ := Lib.hid hq
        clear hq
        cases hb : kidB l x.lv q with
        | true =>
          have HB := Lib.hid hb
          go_wp2_with (go_at_call 32; refine (kidFits_any _ _ _ _ _ _ (HN.out.below ((Below.refl _ _).alloc (Nat.le_refl _) _)) ⟨hv1, hv2⟩ hw).mono ?_; rintro e w1 ⟨rfl, rfl⟩; rw [hb])
          go_round
          case rel =>
            refine ⟨k + 1, _, by omega, by go_num, rfl, fun j hj => ?_⟩
            rcases Nat.lt_or_ge j k with h1 | h1
            · exact HA.out j h1
            · rw [show j = k by omega, HQ.out]; exact HB.out
          case measure => simp [intOf]; omega
        | false =>
          have HB := Lib.hid hb
          go_wp2_with (go_at_call 32; refine (kidFits_any _ _ _ _ _ _ (HN.out.below ((Below.refl _ _).alloc (Nat.le_refl _) _)) ⟨hv1, hv2⟩ hw).mono ?_; rintro e w1 ⟨rfl, rfl⟩; rw [hb])
          go_ret
          refine ⟨nd_b ?_, (Below.refl _ _).alloc (Nat.le_refl _) _⟩
          rw [HR.out]
          exact (fitB_kid hlt (by rw [HQ.out]; exact HB.out)).symm
      · go_wp2
        go_ret
        refine ⟨nd_b ?_, (Below.refl _ _).alloc (Nat.le_refl _) _⟩
        rw [HR.out, fitB_yes ⟨hv1, hv2⟩ (fun j hj => HA.out j (by omega))]
  · have hr : R = false := HR.out.trans (fitB_no hv)
    subst hr
    rcases (show x.lv < 1 ∨ (1 ≤ x.lv ∧ 1329 < x.lv) by omega) with h | ⟨h, h3⟩
    all_goals
      go_enter Try.func26, Try.ntmps26
      go_wp2
      go_ret
      exact ⟨rfl, (Below.refl _ _).alloc (Nat.le_refl _) _⟩
theorem Ns.cut {w : World} {A : Option Addr} {c : Nat} {l : List Nd} (h : Ns w A c l) (k : Nat) : Ns w A c (l.take k) := by
  refine ⟨fun x hx => h.1 x (List.mem_of_mem_take hx), by have := List.length_take_le' k l; have := h.2.1; omega, h.2.2.1, fun hn => ?_⟩
  have h0 : 0 < l.length := by rw [List.length_take] at hn; omega
  obtain ⟨b, off, e, hlt, hc⟩ := h.at_ h0
  refine ⟨b, off, e, hlt, fun i hi => ?_⟩
  rw [List.length_take] at hi
  rw [at_take (by omega)]
  exact hc i (by omega)
theorem NdAt.new (w : World) (x : Nd) (t : TypeId) : NdAt (w.alloc (.cells #[.int .i64 x.lv, .int .i64 x.a, .int .i64 x.b, .int .i64 x.c, .int .i64 x.d] t)) w.heap.size 0 x := by
  have h := heap_alloc_new w (.cells #[.int .i64 x.lv, .int .i64 x.a, .int .i64 x.b, .int .i64 x.c, .int .i64 x.d] t)
  exact ⟨by rw [cell_of_row _ _ _ _ _ _ h]; rfl, by rw [cell_of_row _ _ _ _ _ _ h]; rfl, by rw [cell_of_row _ _ _ _ _ _ h]; rfl, by rw [cell_of_row _ _ _ _ _ _ h]; rfl, by rw [cell_of_row _ _ _ _ _ _ h]; rfl⟩
theorem Ns.drew {w : World} {A : Option Addr} {c : Nat} {l : List Nd} (h : Ns w A c l) : Ns w.drew A c l := h
theorem NdAt.drew {w : World} {b o : Nat} {x : Nd} (h : NdAt w b o x) : NdAt w.drew b o x := h
theorem fits_at (A : Option Addr) (c n : Nat) (l : List Nd) (x : Nd) (w : World) (h : Ns w A c l) (hn : l.length = n) (hx : x.wf) :
    Calls Try.prog 26 #[.slice A n c, ndv x] w fun e w' => e = .returned (.bool (fitB l x)) ∧ Below w.heap.size w w' := by
  subst hn
  exact fits_any A c l x w h hx
set_option maxRecDepth 100000 in
set_option maxHeartbeats 1600000 in
theorem loose_any (A : Option Addr) (c : Nat) (l : List Nd) (w : World) (h : Ns w A c l) :
    Calls Try.prog 15 #[.slice A l.length c] w fun e w' => e = .returned (.bool (looseB l)) ∧ Below w.heap.size w w' := by
  have hcap := h.cap
  obtain ⟨R, hR⟩ : ∃ R, R = looseB l := ⟨_, rfl⟩
  rw [← hR]
  have HR := Lib.hid hR
  have HN := Lib.hid h
  clear hR h
  obtain ⟨n, hn⟩ : ∃ n, n = l.length := ⟨_, rfl⟩
  rw [← hn] at hcap ⊢
  have HL := Lib.hid hn
  clear hn
  go_enter Try.func15, Try.ntmps15
  go_wp2
  go_loopw [7, 3, 4] (fun i z1 z2 wr => ∃ (k : Nat) (v1 v2 : Value), k ≤ n ∧ i = .int .i64 k ∧ z1 = v1 ∧ z2 = v2 ∧ (∀ j, j < k → fitB (l.take j) (at_ l j) = true) ∧ Below w.heap.size w wr) (fun i _ _ _ => n - (intOf i).toNat)
  case atStart => exact ⟨0, _, _, by omega, rfl, rfl, rfl, fun j hj => by omega, Below.refl _ _⟩
  case round =>
    obtain ⟨k, v1, v2, hk, rfl, rfl, rfl, hall, hbw⟩ := hrel
    have HA := Lib.hid hall
    clear hall
    by_cases hlt : k < n
    · obtain ⟨b, off, rfl, hb, hc⟩ := HN.out.at_ (by rw [← HL.out]; omega)
      obtain ⟨c1, c2, c3, c4, c5⟩ := (hc k (by rw [← HL.out]; omega)).below (hbw.block b hb)
      clear hc
      obtain ⟨x, hx⟩ : ∃ x, x = at_ l k := ⟨_, rfl⟩
      rw [← hx] at c1 c2 c3 c4 c5
      have HX := Lib.hid hx
      clear hx
      have i1 : (k : Int) < (n : Int) := by omega
      go_wp2
      have hbx := NdAt.new wr x 38
      have HF := Lib.hid hbx
      have hbw2 := hbw.alloc hbw.size (.cells #[.int .i64 x.lv, .int .i64 x.a, .int .i64 x.b, .int .i64 x.c, .int .i64 x.d] 38)
      have HN2 := Lib.hid ((HN.out.below hbw2).cut k)
      have hgs : wr.heap.size < (wr.alloc (.cells #[.int .i64 x.lv, .int .i64 x.a, .int .i64 x.b, .int .i64 x.c, .int .i64 x.d] 38)).heap.size := by simp
      obtain ⟨f1, f2, f3, f4, f5⟩ := hbx
      have b1 : (0 : Int) ≤ (k : Int) := by omega
      have b2 : (k : Int) ≤ (c : Int) := by omega
      have hlen : (l.take k).length = k := by rw [List.length_take, ← HL.out]; omega
      have HLN := Lib.hid hlen
      have hwx : x.wf := by rw [HX.out]; exact HN.out.wf (by rw [← HL.out]; omega)
      have HWX := Lib.hid hwx
      generalize hW : wr.alloc _ = W at *
      generalize hg : wr.heap.size = g at *
      clear hW hg hlen hwx c1 c2 c3 c4 c5
      cases hb : fitB (l.take k) x with
      | true =>
        have HB := Lib.hid hb
        clear hb
        go_region_held3 (fun w' => w'.cell? ⟨g, 0, none⟩ = some (.int .i64 x.lv) ∧ w'.cell? ⟨g, 1, none⟩ = some (.int .i64 x.a) ∧ w'.cell? ⟨g, 2, none⟩ = some (.int .i64 x.b) ∧ w'.cell? ⟨g, 3, none⟩ = some (.int .i64 x.c) ∧ w'.cell? ⟨g, 4, none⟩ = some (.int .i64 x.d))
          (first | go_keep | fail)
          (first | (go_at_call 26; refine (fits_at _ _ k _ x _ HN2.out.drew HLN.out HWX.out).mono ?_; rintro e w1 ⟨rfl, bw1⟩; rw [HB.out]; obtain ⟨f1, f2, f3, f4, f5⟩ := HF.out.drew.below (bw1.block g hgs)))
        go_wp2
        go_roundw
        case rel =>
          refine ⟨k + 1, _, _, by omega, by go_num, rfl, rfl, fun j hj => ?_, hbw2.drew.trans (bw1.mono hbw2.size)⟩
          rcases Nat.lt_or_ge j k with h1 | h1
          · exact HA.out j h1
          · rw [show j = k by omega, ← HX.out]; exact HB.out
        case measure => simp [intOf]; omega
      | false =>
        have HB := Lib.hid hb
        clear hb
        go_region_held3 (fun w' => w'.cell? ⟨g, 0, none⟩ = some (.int .i64 x.lv) ∧ w'.cell? ⟨g, 1, none⟩ = some (.int .i64 x.a) ∧ w'.cell? ⟨g, 2, none⟩ = some (.int .i64 x.b) ∧ w'.cell? ⟨g, 3, none⟩ = some (.int .i64 x.c) ∧ w'.cell? ⟨g, 4, none⟩ = some (.int .i64 x.d))
          (first | go_keep | fail)
          (first | (go_at_call 26; refine (fits_at _ _ k _ x _ HN2.out.drew HLN.out HWX.out).mono ?_; rintro e w1 ⟨rfl, bw1⟩; rw [HB.out]; obtain ⟨f1, f2, f3, f4, f5⟩ := HF.out.drew.below (bw1.block g hgs)))
        go_wp2
        go_ret
        refine ⟨nd_b ?_, hbw2.drew.trans (bw1.mono hbw2.size)⟩
        rw [HR.out]
        cases hq : looseB l
        · rfl
        · have := loose_iff.1 hq k (by rw [← HL.out]; omega)
          rw [← HX.out, HB.out] at this
          cases this
    · go_wp2
      go_ret
      refine ⟨nd_b ?_, hbw⟩
      rw [HR.out]
      exact (loose_iff.2 fun i hi => HA.out i (by rw [← HL.out] at hi; omega)).symm
theorem loose_at (A : Option Addr) (c n : Nat) (l : List Nd) (w : World) (h : Ns w A c l) (hn : l.length = n) :
    Calls Try.prog 15 #[.slice A n c] w fun e w' => e = .returned (.bool (looseB l)) ∧ Below w.heap.size w w' := by
  subst hn
  exact loose_any A c l w h
end Go.Proofs.Ytbcolelgbbmjkaa
