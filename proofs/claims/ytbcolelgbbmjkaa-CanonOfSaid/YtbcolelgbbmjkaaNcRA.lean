/-
  canon: the reference's Inner, find, Same.
-/
import Derived.Test.YtbcolelgbbmjkaaNcMem

namespace Go.Proofs.Ytbcolelgbbmjkaa
set_option linter.unusedVariables false
set_option linter.unusedSimpArgs false
open Go.RowKit Nds
set_option maxRecDepth 100000 in
set_option maxHeartbeats 1600000 in
theorem rinner_any (A : Option Addr) (c n : Nat) (l : List Nd) (p k : Nat) (w : World) (h : Ns w A c l) (hn : l.length = n) (hl : looseB l = true) (hp : p < n) (hlv : 1 < (at_ l p).lv) (hk : k < 4) :
    Calls Try.prog 30 #[.slice A n c, .int .i64 ((p : Int) + 1), .int .i64 (k : Int)] w fun e w' => e = .returned (.int .i64 (innK l (at_ l p) k)) ∧ w = w' := by
  have hcap := h.cap
  rw [hn] at hcap
  have hpl : p < l.length := by omega
  obtain ⟨b, off, rfl, hb, hc⟩ := h.at_ (by omega)
  have hyc := (hc p hpl).kid hk
  have hfk := fit_kid (loose_fit hl hpl) hk
  obtain ⟨R, hR⟩ : ∃ R, R = innK l (at_ l p) k := ⟨_, rfl⟩
  rw [← hR]
  obtain ⟨y, hy⟩ : ∃ y, y = (at_ l p).kid k := ⟨_, rfl⟩
  unfold innK at hR
  rw [← hy] at hR hfk hyc
  have i1 : (p : Int) < (n : Int) := by omega
  have i2 : (k : Int) < 4 := by omega
  rcases kid_up (by omega) hfk with rfl | ⟨r, rfl, hr, _⟩
  · rw [if_pos rfl] at hR
    subst hR
    clear hy hfk hn hl hlv hc h
    go_enter Try.func30, Try.ntmps30
    go_wp2_with fail
    go_ret
    exact ⟨rfl, rfl⟩
  · rw [if_neg (by omega), show ((r : Int) + 1).toNat - 1 = r by omega] at hR
    obtain ⟨k2, hk2⟩ : ∃ k2, k2 = 3 - k := ⟨_, rfl⟩
    have hzc := (hc r hr).kid (q := k2) (by omega)
    rw [← hk2] at hR
    rw [← hR] at hzc
    have t1 : ((r : Int) + 1 == 0) = false := beq_eq_false_iff_ne.2 (by omega)
    have e3 : (3 : Int) - (k : Int) = (k2 : Int) := by omega
    have i3 : (r : Int) < (n : Int) := by omega
    have i4 : (k2 : Int) < 4 := by omega
    have HE := Lib.hid e3
    clear hy hfk hn hl hlv hc hk2 hR h hr
    go_enter Try.func30, Try.ntmps30
    go_wp2_with fail
    go_ret
    exact ⟨rfl, rfl⟩
set_option maxRecDepth 100000 in
set_option maxHeartbeats 1600000 in
theorem rfind_any (A : Option Addr) (c n : Nat) (l : List Nd) (x : Nd) (w : World) (h : Ns w A c l) (hn : l.length = n) (hx : x.wf) :
    Calls Try.prog 31 #[.slice A n c, ndv x] w fun e w' => e = .returned (.int .i64 ((fnd l x : Nat) : Int)) ∧ Below w.heap.size w w' := by
  have hcap := h.cap
  rw [hn] at hcap
  have hb := (Below.refl w.heap.size w).alloc (Nat.le_refl _) (.cells #[.int .i64 x.lv, .int .i64 x.a, .int .i64 x.b, .int .i64 x.c, .int .i64 x.d] 38)
  have HB := Lib.hid hb
  have HNL := Lib.hid (h.below hb)
  have HL := Lib.hid hn
  have HWX := Lib.hid hx
  obtain ⟨R, hR⟩ : ∃ R, R = fnd l x := ⟨_, rfl⟩
  rw [← hR]
  have HR := Lib.hid hR
  have hbx := NdAt.new w x 38
  clear h hn hb hx hR
  go_enter Try.func31, Try.ntmps31
  go_wp2_with fail
  obtain ⟨f1, f2, f3, f4, f5⟩ := hbx
  generalize hg : w.heap.size = g at *
  generalize hW : w.alloc _ = W at *
  have HG := Lib.hid hg
  clear hW hg
  go_loopw [5] (fun i wr => ∃ (k nd : Nat), wr = W.drewN nd ∧ k ≤ n ∧ i = .int .i64 k ∧ ∀ j, j < k → at_ l j ≠ x) (fun i _ => n - (intOf i).toNat)
  case atStart => exact ⟨0, 0, rfl, by omega, rfl, fun j hj => by omega⟩
  case round =>
    obtain ⟨k, nd, rfl, hk, rfl, hall⟩ := hrel
    have HA := Lib.hid hall
    clear hall
    by_cases hlt : k < n
    · obtain ⟨b, off, rfl, hb, hc⟩ := HNL.out.at_ (by rw [HL.out]; omega)
      obtain ⟨c1, c2, c3, c4, c5⟩ := hc k (by rw [HL.out]; exact hlt)
      have hwy := HNL.out.wf (i := k) (by rw [HL.out]; exact hlt)
      clear hc
      obtain ⟨y, hy⟩ : ∃ y, y = at_ l k := ⟨_, rfl⟩
      rw [← hy] at c1 c2 c3 c4 c5 hwy
      have HY := Lib.hid hy
      have hq := eql_node y x hwy HWX.out
      have i1 : (k : Int) < (n : Int) := by omega
      have i2 : (0 : Int) ≤ (k : Int) := by omega
      clear hy hwy
      by_cases hxy : y = x
      · have HXY := Lib.hid hxy
        rw [decide_eq_true hxy] at hq
        clear hxy
        go_wp2_with fail
        go_quiet (fail)
        go_wp2_with fail
        go_ret
        refine ⟨?_, below_drewN' (by rw [HG.out]; exact HB.out) _⟩
        rw [HR.out, fnd_some (i := k) (by rw [HL.out]; exact hlt) (by rw [← HY.out]; exact HXY.out) HA.out]
        simp
      · have HXY := Lib.hid hxy
        rw [decide_eq_false hxy] at hq
        clear hxy
        go_wp2_with fail
        go_quiet (fail)
        go_wp2_with fail
        go_roundw
        case rel =>
          refine ⟨k + 1, _, rfl, by omega, by go_num, fun j hj => ?_⟩
          rcases Nat.lt_or_ge j k with h1 | h1
          · exact HA.out j h1
          · rw [show j = k by omega, ← HY.out]; exact HXY.out
        case measure => simp [intOf]; omega
    · go_wp2_with fail
      go_ret
      refine ⟨?_, below_drewN' (by rw [HG.out]; exact HB.out) _⟩
      rw [HR.out, fnd_none fun j hj => HA.out j (by rw [HL.out] at hj; omega)]
      rfl
set_option maxRecDepth 100000 in
set_option maxHeartbeats 1600000 in
theorem rsame_any (A B : Option Addr) (c d n p : Nat) (l m : List Nd) (w : World) (h : Ns w A c l) (k : Ns w B d m) (hn : l.length = n) (hp : m.length = p) :
    Calls Try.prog 8 #[.agg #[.slice A n c], .agg #[.slice B p d]] w fun e w' => e = .returned (.bool (decide (l = m))) ∧ Below w.heap.size w w' := by
  have hb := ((Below.refl w.heap.size w).alloc (Nat.le_refl _) (.cells #[.slice A n c] 25)).alloc (by simp) (.cells #[.slice B p d] 25)
  have HB := Lib.hid hb
  have HL := Lib.hid (h.below hb)
  have HM := Lib.hid (k.below hb)
  have HN := Lib.hid hn
  have HP := Lib.hid hp
  obtain ⟨R, hR⟩ : ∃ R, R = decide (l = m) := ⟨_, rfl⟩
  rw [← hR]
  have HR := Lib.hid hR
  clear hb h k hn hp hR
  go_enter Try.func8, Try.ntmps8
  go_wp2_with (go_at_call 9; refine (rnodes_any _ _ _ _ _ _ l m _ HL.out HM.out HN.out HP.out).mono ?_; rintro e w1 ⟨rfl, q, rfl⟩; rw [← HR.out])
  go_ret
  exact ⟨rfl, below_drewN' HB.out _⟩
theorem rloose_b (A : Option Addr) (c n : Nat) (l : List Nd) (w : World) (h : Ns w A c l) (hn : l.length = n) :
    Calls Try.prog 11 #[.slice A n c] w fun e w' => e = .returned (.bool (looseB l)) ∧ Below w.heap.size w w' :=
  (rloose_at A c n l w h hn).mono fun _ _ ⟨he, hw⟩ => ⟨he, drewN_below hw⟩
theorem rnodes_b (A B : Option Addr) (c d n p : Nat) (l m : List Nd) (w : World) (h : Ns w A c l) (k : Ns w B d m) (hn : l.length = n) (hp : m.length = p) :
    Calls Try.prog 9 #[.slice A n c, .slice B p d] w fun e w' => e = .returned (.bool (decide (l = m))) ∧ Below w.heap.size w w' :=
  (rnodes_any A B c d n p l m w h k hn hp).mono fun _ _ ⟨he, hw⟩ => ⟨he, drewN_below hw⟩
/-- May it be asked for? -/
def okB (l : List Nd) (k : Int) : Bool := looseB l && decide (0 ≤ k ∧ k ≤ (l.length : Int))
def ofQ (l : List Nd) (k : Int) : List Nd := if okB l k = true then OfL l k.toNat else []
def ofE (l : List Nd) (k : Int) : Int := if okB l k = true then 0 else 1
/-- What Of leaves. -/
def RetO (l : List Nd) (k : Int) (w : World) (e : Ending) (w' : World) : Prop :=
  ∃ A c, e = .returned (.tuple #[.agg #[.slice A (ofQ l k).length c], .int .i64 (ofE l k)]) ∧ Ns w' A c (ofQ l k) ∧ (A = none → c = 0) ∧ Below w.heap.size w w'
theorem ofQ_no {l : List Nd} {k : Int} (h : okB l k = false) : ofQ l k = [] ∧ ofE l k = 1 := by
  unfold ofQ ofE
  rw [if_neg (by rw [h]; simp), if_neg (by rw [h]; simp)]
  exact ⟨rfl, rfl⟩
theorem ofQ_yes {l : List Nd} {n : Nat} (hl : looseB l = true) (hn : n ≤ l.length) : ofQ l (n : Int) = OfL l n ∧ ofE l (n : Int) = 0 := by
  have h : okB l (n : Int) = true := by
    unfold okB
    rw [hl, decide_eq_true (by omega)]
    rfl
  unfold ofQ ofE
  rw [if_pos h, if_pos h, Int.toNat_natCast]
  exact ⟨rfl, rfl⟩
theorem okB_no {l : List Nd} {k : Int} (h : looseB l = false ∨ k < 0 ∨ (l.length : Int) < k) : okB l k = false := by
  unfold okB
  rcases h with h | h
  · rw [h]
    rfl
  · rw [decide_eq_false (by omega), Bool.and_false]
theorem ns_nil (w : World) : Ns w none 0 [] := ⟨by simp, Nat.le_refl _, by simp [maxLen], fun h => absurd h (Nat.lt_irrefl 0)⟩
end Go.Proofs.Ytbcolelgbbmjkaa
