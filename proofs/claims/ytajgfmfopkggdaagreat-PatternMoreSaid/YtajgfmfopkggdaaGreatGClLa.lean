/-
  limb.Sub, big.Add of unlike signs, big.Sub: their answers lie in new memory.
  the reference's limbs out of bits, sign, Add: their answers lie in new memory.
  cells: append of slices of cells; rows of cells whose numbers lie elsewhere.
  cells, the reference: what Last puts in, cell by cell.
-/
import Derived.Test.YtajgfmfopkggdaaGreatGNdsE
import Derived.Test.YtajgfmfopkggdaaGreatGSub
import Derived.Test.YtajgfmfopkggdaaGreatGCmp
import Derived.Test.YtajgfmfopkggdaaGreatGClK2
import Derived.Test.YtajgfmfopkggdaaGreatGNcRS
import Derived.Test.YtajgfmfopkggdaaGreatGClVp
import Derived.Test.YtajgfmfopkggdaaGreatGNcPB
import Derived.Test.YtajgfmfopkggdaaGreatGClWi
import Derived.ArgAppend

set_option linter.unusedVariables false
set_option linter.unusedSimpArgs false
set_option maxRecDepth 100000
namespace Go.Proofs.YtajgfmfopkggdaaGreat
open Go.RowKit Num
def FrU (B : Nat) (A : Option Addr) : Prop := ∀ a, A = some a → B ≤ a.block
def RetIF (n : Int) (w : World) (e : Ending) (w' : World) : Prop :=
 ∃ A c s rs, e = .returned (.agg #[.bool s, .slice A rs.length c]) ∧ Us w' A c rs ∧ CanonI s rs ∧ ival s rs = n ∧ Below w.heap.size w w' ∧ FrU w.heap.size A
theorem RetIF.box {w w1 : World} {g : Nat} {A A0 : Option Addr} {c n0 c0 : Nat} {s s0 : Bool} {rs : List Nat} {n : Int} (hg : w.heap.size ≤ g) (hb : Box w1 g (.bool s0) (.slice A0 n0 c0)) (q : Us w1 A c rs) (k : CanonI s rs) (v : ival s rs = n) (b : Below w.heap.size w w1) (f : FrU w.heap.size A) :
  RetIF n w (.returned (.agg #[.bool s, .slice A rs.length c])) ((w1.setCell ⟨g, 0, none⟩ (.bool s)).setCell ⟨g, 1, none⟩ (.slice A rs.length c)) :=
 ⟨A, c, s, rs, rfl, q.boxed hb _ _, k, v, (b.setCell (p := ⟨g, 0, none⟩) hg _).setCell (p := ⟨g, 1, none⟩) hg _, f⟩
end Go.Proofs.YtajgfmfopkggdaaGreat

namespace Go.Proofs.YtajgfmfopkggdaaGreat
open Go.RowKit Num
def RetUR (n : Nat) (w : World) (e : Ending) (w' : World) : Prop :=
 ∃ A c rs, e = .returned (.slice A rs.length c) ∧ Us w' A c rs ∧ Canon rs ∧ val rs = n ∧ Below w.heap.size w w' ∧ FrU w.heap.size A
set_option maxHeartbeats 3200000 in
theorem rof_fr (A : Option Addr) (c : Nat) (bs : List Bool) (w : World) (h : Bl w A c bs) (hl : bs.length ≤ 100000000) :
  Calls Tryz.prog 105 #[.slice A bs.length c] w (RetUR (bval bs) w) := by
 obtain ⟨i0, hi, hz0, hz1, hz2⟩ := info_parts Tryz.infoU
 have HH := Lib.hid h
 have HI := Lib.hid (And.intro hi (And.intro hz0 (And.intro hz1 hz2)))
 clear h hi hz0 hz1 hz2
 obtain ⟨s, hs⟩ : ∃ s, s = bval bs := ⟨_, rfl⟩
 rw [← hs]
 have HS := Lib.hid hs
 clear hs
 go_enter Tryz.func105, Tryz.ntmps105
 go_wp2_with (go_at_call 143; refine (cut_any A c bs _ HH.out hl).mono ?_; rintro e w0 ⟨n, hn, rfl, hcan, hval, hb0⟩)
 obtain ⟨ds, hds⟩ : ∃ ds, ds = bs.take n := ⟨_, rfl⟩
 have hdl : n = ds.length := by rw [hds, List.length_take, Nat.min_eq_left hn]
 have hD : Bl w0 A c ds := by rw [hds]; exact (HH.out.below hb0).take hn
 rw [← hds] at hcan hval
 have hnl : n ≤ 100000000 := by omega
 have HD := Lib.hid hD
 have HDL := Lib.hid hdl
 have HC := Lib.hid (And.intro hcan hval)
 have HB0 := Lib.hid hb0
 clear hds hdl hD hcan hval hb0 hn hl HH
 go_loopw [3, 4, 5, 6, 7] (fun v iv _ _ _ wr => ∃ i : Nat, i < n + 32 ∧ iv = .int .i64 i ∧ OfRel i ds w0 v wr) (fun _ iv _ _ _ _ => n - (intOf iv).toNat)
 case atStart => exact ⟨0, by omega, rfl, OfRel.start _ _ _ (Below.refl _ _)⟩
 case round =>
  obtain ⟨i, hi, rfl, R⟩ := hrel
  have HR := Lib.hid R
  clear R
  by_cases hlt : i < n
  ·
   obtain ⟨wo, rfl⟩ : ∃ wo : World, wo = wr := ⟨_, rfl⟩
   go_wp2
   go_loopw [5, 6, 7] (fun xv pv kv wr => ∃ k x p : Nat, i ≤ k ∧ k ≤ i + 32 ∧ k ≤ n ∧ kv = .int .i64 (k : Int) ∧ xv = .int .u32 (x : Int) ∧ pv = .int .u32 (p : Int) ∧ OfIn ds i k x p ∧ wr = wo) (fun _ _ kv _ => i + 32 - (intOf kv).toNat)
   case atStart => exact ⟨i, 0, 1, Nat.le_refl _, by omega, by omega, rfl, rfl, rfl, OfIn.start _ _, rfl⟩
   case round =>
    obtain ⟨k, x, p, hk1, hk2, hk3, rfl, rfl, rfl, hin, rfl⟩ := hrel
    by_cases hgo : k < n ∧ k < i + 32
    ·
     obtain ⟨hg1, hg2⟩ := hgo
     obtain ⟨b, off, hA, hb, hc⟩ := HD.out.at_ (by rw [← HDL.out]; omega)
     have hbw : Below w0.heap.size w0 wr := by obtain ⟨_, _, _, _, _, _, _, _, h⟩ := HR.out; exact h
     have ex := (hbw.cell (p := ⟨b, off + k, none⟩) hb).trans (hc k (by rw [← HDL.out]; exact hg1))
     obtain ⟨bt, hbt⟩ : ∃ bt, bt = ds[k]?.getD false := ⟨_, rfl⟩
     rw [← hbt] at ex
     obtain ⟨hx1, hx2⟩ := hin.bound hk1 hg2
     have HN1 := Lib.hid (hin.next hk1 hg2 (by rw [← HDL.out]; exact hg1) hbt)
     clear hc hbt hbw hin
     subst hA
     cases bt
     ·
      go_wp2
      go_roundw
      case rel => exact ⟨k + 1, _, p * 2 % 4294967296, by omega, by omega, by omega, by go_num, rfl, by simp, HN1.out, by first | trivial | rfl⟩
      case measure => simp [intOf] <;> omega
     ·
      go_wp2
      go_roundw
      case rel => exact ⟨k + 1, x + p, p * 2 % 4294967296, by omega, by omega, by omega, by go_num, by simp, by simp, HN1.out, by first | trivial | rfl⟩
      case measure => simp [intOf] <;> omega
    ·
     have hx := hin.last hk1 hk2 (by rw [← HDL.out]; exact hk3) (by rw [← HDL.out]; omega)
     obtain ⟨q, rs, r0, r1, r2, r3, r4, r5, r6⟩ := HR.out
     have HX := Lib.hid hx
     have HO := Lib.hid (And.intro r0 (And.intro r1 (And.intro r2 (And.intro r3 r6))))
     have hrl : rs.length ≤ 100000000 := by omega
     clear hx r0 r1 r2 r3 r4 r5 r6 hin HR
     have hstop : ¬ (k < n ∧ k < i + 32) := hgo
     by_cases hkn : k < n
     ·
      have hki : ¬ k < i + 32 := by omega
      clear hgo hstop
      go_wp2_with (at_builtin; refine wpList_append_own_at _ rfl _ _ 29 rfl w0.heap.size 97 i0 (.int .u32 0) 1 4 Tryz.underlying29 HI.out.1 HI.out.2.1 HI.out.2.2.1 HI.out.2.2.2 rfl (by decide) _ _ _ rfl (HO.out.2.1.2.alloc _) ⟨_, 0, none⟩ 1 1 [.int .u32 (x : Int)] rfl rfl (cell_one_new _ _ _) (by simp [Value.oneCell']) (by simp only [maxLen]; omega) (by omega) (by have := HO.out.2.2.2.2.size; simp; omega) ?_; intro v2 w2 own2 grow2 _ at2)
      go_roundw
      case rel => exact ⟨i + 32, by omega, by go_num, OfRel.next HO.out.1 HO.out.2.1 HO.out.2.2.1 HO.out.2.2.2.1 HO.out.2.2.2.2 (by rw [← HDL.out]; exact hlt) HX.out own2 grow2⟩
      case measure => simp [intOf] <;> omega
     ·
      clear hgo hstop
      go_wp2_with (at_builtin; refine wpList_append_own_at _ rfl _ _ 29 rfl w0.heap.size 97 i0 (.int .u32 0) 1 4 Tryz.underlying29 HI.out.1 HI.out.2.1 HI.out.2.2.1 HI.out.2.2.2 rfl (by decide) _ _ _ rfl (HO.out.2.1.2.alloc _) ⟨_, 0, none⟩ 1 1 [.int .u32 (x : Int)] rfl rfl (cell_one_new _ _ _) (by simp [Value.oneCell']) (by simp only [maxLen]; omega) (by omega) (by have := HO.out.2.2.2.2.size; simp; omega) ?_; intro v2 w2 own2 grow2 _ at2)
      go_roundw
      case rel => exact ⟨i + 32, by omega, by go_num, OfRel.next HO.out.1 HO.out.2.1 HO.out.2.2.1 HO.out.2.2.2.1 HO.out.2.2.2.2 (by rw [← HDL.out]; exact hlt) HX.out own2 grow2⟩
      case measure => simp [intOf] <;> omega
  ·
   obtain ⟨q, rs, r0, r1, r2, r3, r4, r5, r6⟩ := HR.out
   obtain ⟨A1, c1, hv⟩ := r1.shape
   subst hv
   have HFR := Lib.hid (show FrU w0.heap.size A1 from fun a ea => by subst ea; exact (World.ownsRow.lt r1.2 _ rfl).1)
   have HO := Lib.hid (And.intro r1 (And.intro r3 (And.intro r5 r6)))
   clear r0 r1 r2 r3 r4 r5 r6 HR
   go_wp2
   go_ret
   refine ⟨A1, c1, rs, rfl, HO.out.1.reads rfl, HO.out.2.2.1 (by rw [← HDL.out]; omega) HC.out.1, ?_, HB0.out.trans (HO.out.2.2.2.mono HB0.out.size), fun a ea => Nat.le_trans HB0.out.size (HFR.out a ea)⟩
   rw [HO.out.2.1, List.take_of_length_le (by rw [← HDL.out]; omega), HC.out.2, HS.out]
set_option maxHeartbeats 800000 in
theorem rnorm_fr (A : Option Addr) (c : Nat) (xs : List Nat) (w : World) (h : Us w A c xs) (hl : xs.length ≤ 1000000) :
  Calls Tryz.prog 102 #[.slice A xs.length c] w (RetUR (val xs) w) := by
 have HH := Lib.hid h
 have hd := h.1
 clear h
 go_enter Tryz.func102, Tryz.ntmps102
 go_wp2_with (first
  | (go_at_call 103; refine (bits_any A c xs _ HH.out hl).mono ?_; rintro e w1 ⟨A1, c1, bs, rfl, q1, k1, v1, b1⟩)
  | (go_at_call 105; refine (rof_fr A1 c1 bs _ q1 (by have := bits_len hd k1 v1; omega)).mono ?_; rintro e w2 ⟨A2, c2, rs, rfl, q2, k2, v2, b2, f2⟩; have HF := Lib.hid (And.intro b1.size f2); clear f2))
 go_ret
 exact ⟨A2, c2, rs, rfl, q2, k2, v2.trans v1, b1.trans (b2.mono b1.size), fun a ea => Nat.le_trans HF.out.1 (HF.out.2 a ea)⟩
set_option maxHeartbeats 1600000 in
theorem rsign_fr (s : Bool) (A : Option Addr) (c : Nat) (xs : List Nat) (w : World) (h : Us w A c xs) (hl : xs.length ≤ 100000) :
  Calls Tryz.prog 66 #[.bool s, .slice A xs.length c] w (RetIF (ival s xs) w) := by
 have hcap := h.cap
 have b0 := Lib.hid ((Below.refl w.heap.size w).alloc (Nat.le_refl _) (.cells #[.bool false, .slice none 0 0] 31))
 have H1 := Lib.hid h
 clear h
 go_enter Tryz.func66, Tryz.ntmps66
 cases s
 all_goals
  go_wp2_with (go_at_call 102; refine (rnorm_fr _ _ xs _ (H1.out.below b0.out) (by omega)).mono ?_; rintro e w1 ⟨A1, c1, r1, rfl, q, k1, v1, b, f1⟩; have HF1 := Lib.hid (show FrU w.heap.size A1 from fun a ea => Nat.le_trans (by simp) (f1 a ea)); clear f1; have hcap1 := q.cap; obtain ⟨x1, x2, x3, x4, x5⟩ := (Box.new w _ _ _).below b; have HQ := Lib.hid (And.intro q (And.intro k1 (And.intro v1 b))); clear q k1 v1 b)
 all_goals
  have HB := (Box.new w (.bool false) (.slice none 0 0) 31).below HQ.out.2.2.2
  have hw1 : Below w.heap.size w w1 := b0.out.trans (HQ.out.2.2.2.mono (by simp))
  clear x1 x2 x3 x4 x5
 ·
  obtain ⟨e1, e2, _, _, _⟩ := HB.set (.bool false) (.slice A1 r1.length c1)
  refine bodyPost_ret (v := .agg #[.bool false, .slice A1 r1.length c1]) (by simp [results, Tryz.results66, go_sem, e1, e2]) rfl ?_
  exact RetIF.box (Nat.le_refl _) HB HQ.out.1 ⟨HQ.out.2.1, by simp⟩ (by unfold ival; simp [HQ.out.2.2.1]) hw1 HF1.out
 ·
  obtain ⟨e1, e2, _, _, _⟩ := HB.set (.bool (decide (0 < r1.length))) (.slice A1 r1.length c1)
  refine bodyPost_ret (v := .agg #[.bool (decide (0 < r1.length)), .slice A1 r1.length c1]) (by simp [results, Tryz.results66, go_sem, e1, e2]) rfl ?_
  refine RetIF.box (Nat.le_refl _) HB HQ.out.1 (by simpa using canonI_of HQ.out.2.1 true) ?_ hw1 HF1.out
  have := ival_of r1 true
  simp only [Bool.true_and] at this
  rw [this]
  unfold ival
  simp [HQ.out.2.2.1]
set_option maxHeartbeats 1600000 in
theorem rbadd_sameF (s : Bool) (A B : Option Addr) (c d : Nat) (xs ys : List Nat) (w : World) (h : Us w A c xs) (k : Us w B d ys) (hl : xs.length ≤ 60000) (kl : ys.length ≤ 60000) :
  Calls Tryz.prog 26 #[.agg #[.bool s, .slice A xs.length c], .agg #[.bool s, .slice B ys.length d]] w (RetIF (ival s xs + ival s ys) w) := by
 have hcap := h.cap
 have kcap := k.cap
 obtain ⟨hX, hY, hR, hB⟩ := box3 w (.bool s) (.slice A xs.length c) (.bool s) (.slice B ys.length d) (.bool false) (.slice none 0 0) 31
 have HX := Lib.hid hX.drew
 have HY := Lib.hid hY.drew
 have HR := Lib.hid hR.drew
 have HB := Lib.hid (Below.drew' hB)
 have H1 := Lib.hid (h.below HB.out)
 have H2 := Lib.hid (k.below HB.out)
 have hd := h.1
 have kd := k.1
 clear h k hX hY hR hB
 have n1 : ¬ w.heap.size = w.heap.size + 1 + 1 := by omega
 have n2 : ¬ w.heap.size + 1 + 1 = w.heap.size := by omega
 go_enter Tryz.func26, Tryz.ntmps26
 go_wp2_with fail
 go_region_held3 (fun w' => w'.cell? ⟨w.heap.size, 0, none⟩ = some (.bool s) ∧ w'.cell? ⟨w.heap.size, 1, none⟩ = some (.slice A xs.length c) ∧ w'.cell? ⟨w.heap.size + 1, 1, none⟩ = some (.slice B ys.length d))
  (first | go_keep | fail)
  (first
   | (go_at_call 67; refine (radd_any _ _ _ _ xs ys _ H1.out H2.out (by omega) (by omega)).mono ?_; rintro e w1 ⟨A1, c1, r1, rfl, q1, k1, v1, b1⟩; obtain ⟨x1, x2, _, _, _⟩ := HX.out.below b1; obtain ⟨_, z2, _, _, _⟩ := HY.out.below b1; have l1 := len_sum hd kd hl kl k1 v1)
   | (go_at_call 66; refine (rsign_fr s _ _ r1 _ q1 (by omega)).mono ?_; rintro e w2 ⟨A2, c2, s2, r2, rfl, q2, k2, v2, b2, f2⟩; have HF2 := Lib.hid f2; clear f2; obtain ⟨x1, x2, _, _, _⟩ := (HX.out.below b1).below b2; obtain ⟨_, z2, _, _, _⟩ := (HY.out.below b1).below b2; obtain ⟨y1, y2, y3, y4, _⟩ := (HR.out.below b1).below b2))
 go_wp2
 obtain ⟨e1, e2, _, _, _⟩ := (((HR.out.below b1).below b2).set (.bool s2) (.slice A2 r2.length c2))
 refine bodyPost_ret (v := .agg #[.bool s2, .slice A2 r2.length c2]) (by simp [results, Tryz.results26, go_sem, e1, e2]) rfl ?_
 refine RetIF.box (by omega) ((HR.out.below b1).below b2) q2 k2 (v2.trans ?_) ((HB.out.trans (b1.mono HB.out.size)).trans (b2.mono (HB.out.trans (b1.mono HB.out.size)).size)) (fun a ea => Nat.le_trans HB.out.size (Nat.le_trans b1.size (HF2.out a ea)))
 unfold ival
 rw [v1]
 cases s <;> simp <;> omega
set_option maxHeartbeats 1600000 in
theorem rbadd_moreF (s : Bool) (A B : Option Addr) (c d : Nat) (xs ys : List Nat) (w : World) (h : Us w A c xs) (k : Us w B d ys) (hl : xs.length ≤ 60000) (kl : ys.length ≤ 60000) (hle : val ys ≤ val xs) :
  Calls Tryz.prog 26 #[.agg #[.bool s, .slice A xs.length c], .agg #[.bool (!s), .slice B ys.length d]] w (RetIF (ival s xs + ival (!s) ys) w) := by
 have hcap := h.cap
 have kcap := k.cap
 obtain ⟨hX, hY, hR, hB⟩ := box3 w (.bool s) (.slice A xs.length c) (.bool (!s)) (.slice B ys.length d) (.bool false) (.slice none 0 0) 31
 have HX := Lib.hid hX
 have HY := Lib.hid hY
 have HR := Lib.hid hR
 have HB := Lib.hid (hB)
 have H1 := Lib.hid (h.below HB.out)
 have H2 := Lib.hid (k.below HB.out)
 have hd := h.1
 have kd := k.1
 clear h k hX hY hR hB
 have n1 : ¬ w.heap.size = w.heap.size + 1 + 1 := by omega
 have n2 : ¬ w.heap.size + 1 + 1 = w.heap.size := by omega
 have HL := Lib.hid hle
 clear hle
 have hst : (s == !s) = false := by cases s <;> rfl
 go_enter Tryz.func26, Tryz.ntmps26
 go_wp2_with (first
  | (go_at_call_of 68 (Value.slice A xs.length c); go_loud (refine (rsub_any _ _ _ _ xs ys _ H1.out H2.out (by omega) (by omega)).mono ?_; intro e w1 h; obtain ⟨A1, c1, r1, rfl, q1, k1, v1, b1⟩ := h.2 HL.out; clear h; obtain ⟨x1, x2, _, _, _⟩ := HX.out.below b1; obtain ⟨z1, z2, _, _, _⟩ := HY.out.below b1; have l1 := len_less hd hl k1 v1; have HV := Lib.hid v1; clear v1))
  | (go_at_call 66; go_loud (refine (rsign_fr s _ _ r1 _ q1 (by omega)).mono ?_; rintro e w2 ⟨A2, c2, s2, r2, rfl, q2, k2, v2, b2, f2⟩; have HF2 := Lib.hid f2; clear f2; obtain ⟨y1, y2, y3, y4, _⟩ := (HR.out.below b1).below b2; have HV2 := Lib.hid v2; clear v2)))
 obtain ⟨e1, e2, _, _, _⟩ := (((HR.out.below b1).below b2).set (.bool s2) (.slice A2 r2.length c2))
 refine bodyPost_ret (v := .agg #[.bool s2, .slice A2 r2.length c2]) (by simp [results, Tryz.results26, go_sem, e1, e2]) rfl ?_
 refine RetIF.box (by omega) ((HR.out.below b1).below b2) q2 k2 (HV2.out.trans ?_) ((HB.out.trans (b1.mono HB.out.size)).trans (b2.mono (HB.out.trans (b1.mono HB.out.size)).size)) (fun a ea => Nat.le_trans HB.out.size (Nat.le_trans b1.size (HF2.out a ea)))
 have hle := HL.out
 unfold ival
 rw [HV.out]
 cases s <;> simp <;> omega
set_option maxHeartbeats 1600000 in
theorem rbadd_lessF (s : Bool) (A B : Option Addr) (c d : Nat) (xs ys : List Nat) (w : World) (h : Us w A c xs) (k : Us w B d ys) (hl : xs.length ≤ 60000) (kl : ys.length ≤ 60000) (hle : val xs < val ys) :
  Calls Tryz.prog 26 #[.agg #[.bool s, .slice A xs.length c], .agg #[.bool (!s), .slice B ys.length d]] w (RetIF (ival s xs + ival (!s) ys) w) := by
 have hcap := h.cap
 have kcap := k.cap
 obtain ⟨hX, hY, hR, hB⟩ := box3 w (.bool s) (.slice A xs.length c) (.bool (!s)) (.slice B ys.length d) (.bool false) (.slice none 0 0) 31
 have HX := Lib.hid hX
 have HY := Lib.hid hY
 have HR := Lib.hid hR
 have HB := Lib.hid (hB)
 have H1 := Lib.hid (h.below HB.out)
 have H2 := Lib.hid (k.below HB.out)
 have hd := h.1
 have kd := k.1
 clear h k hX hY hR hB
 have n1 : ¬ w.heap.size = w.heap.size + 1 + 1 := by omega
 have n2 : ¬ w.heap.size + 1 + 1 = w.heap.size := by omega
 have HL := Lib.hid hle
 clear hle
 have hst : (s == !s) = false := by cases s <;> rfl
 have tok0 : True := trivial
 go_enter Tryz.func26, Tryz.ntmps26
 go_wp2_with (first
  | (go_at_call 68; have _t := tok0; refine (rsub_any A B _ _ xs ys _ H1.out H2.out (by omega) (by omega)).mono ?_; intro e w1 h; obtain ⟨rfl, b1⟩ := h.1 HL.out; clear h tok0 _t; obtain ⟨x1, x2, _, _, _⟩ := HX.out.below b1; obtain ⟨z1, z2, _, _, _⟩ := HY.out.below b1)
  | (go_at_call 68; go_loud (refine (rsub_any B A _ _ ys xs _ (H2.out.below b1) (H1.out.below b1) (by omega) (by omega)).mono ?_; intro e w3 h; obtain ⟨A1, c1, r1, rfl, q1, k1, v1, b3⟩ := h.2 (Nat.le_of_lt HL.out); clear h x1 x2 z1 z2; obtain ⟨x1, x2, _, _, _⟩ := (HX.out.below b1).below b3; obtain ⟨z1, z2, _, _, _⟩ := (HY.out.below b1).below b3; have l1 := len_less kd kl k1 v1; have HV := Lib.hid v1; clear v1))
  | (go_at_call 66; go_loud (refine (rsign_fr (!s) _ _ r1 _ q1 (by omega)).mono ?_; rintro e w2 ⟨A2, c2, s2, r2, rfl, q2, k2, v2, b2, f2⟩; have HF2 := Lib.hid f2; clear f2; obtain ⟨y1, y2, y3, y4, _⟩ := ((HR.out.below b1).below b3).below b2; have HV2 := Lib.hid v2; clear v2)))
 obtain ⟨e1, e2, _, _, _⟩ := ((((HR.out.below b1).below b3).below b2).set (.bool s2) (.slice A2 r2.length c2))
 refine bodyPost_ret (v := .agg #[.bool s2, .slice A2 r2.length c2]) (by simp [results, Tryz.results26, go_sem, e1, e2]) rfl ?_
 have hb1 := HB.out.trans (b1.mono HB.out.size)
 have hb3 := hb1.trans (b3.mono hb1.size)
 refine RetIF.box (by omega) (((HR.out.below b1).below b3).below b2) q2 k2 (HV2.out.trans ?_) (hb3.trans (b2.mono hb3.size)) (fun a ea => Nat.le_trans hb3.size (HF2.out a ea))
 have hle := HL.out
 unfold ival
 rw [HV.out]
 cases s <;> simp <;> omega
theorem rbadd_F (s t : Bool) (A B : Option Addr) (c d : Nat) (xs ys : List Nat) (w : World) (h : Us w A c xs) (k : Us w B d ys) (hl : xs.length ≤ 60000) (kl : ys.length ≤ 60000) :
  Calls Tryz.prog 26 #[.agg #[.bool s, .slice A xs.length c], .agg #[.bool t, .slice B ys.length d]] w (RetIF (ival s xs + ival t ys) w) := by
 by_cases hst : s = t
 ·
  subst hst
  exact rbadd_sameF s A B c d xs ys w h k hl kl
 ·
  obtain rfl : t = !s := by cases s <;> cases t <;> simp_all
  rcases Nat.lt_or_ge (val xs) (val ys) with hlt | hge
  ·
   exact rbadd_lessF s A B c d xs ys w h k hl kl hlt
  ·
   exact rbadd_moreF s A B c d xs ys w h k hl kl hge
end Go.Proofs.YtajgfmfopkggdaaGreat

namespace Go.Proofs.YtajgfmfopkggdaaGreat
open Go.RowKit Nds Num
theorem Cs.cells {w : World} {A : Option Addr} {c : Nat} {l : List Cv} {ad : Addr} (h : Cs w A c l) (e : A = some ad) : ∀ j u, (cvcs l)[j]? = some u → w.cell? (ad.add j) = some u := by
 intro j u hu
 have hj := (List.getElem?_eq_some_iff.1 hu).1
 rw [cvcs_len] at hj
 obtain ⟨b, off, e2, _, hc⟩ := h.at_ (by omega)
 rw [e] at e2
 cases e2
 obtain ⟨i, k, rfl, hk⟩ : ∃ i k, j = i * 5 + k ∧ k < 5 := ⟨j / 5, j % 5, by omega, by omega⟩
 have hi : i < l.length := by omega
 rw [cvcs_at l i k hi hk] at hu
 obtain ⟨h0, h1, h2, h3, h4⟩ := hc i hi
 have hadd : (⟨b, off, none⟩ : Addr).add (i * 5 + k) = ⟨b, off + i * 5 + k, none⟩ := by
  unfold Addr.add
  split
  ·
   rename_i h; rw [show off + i * 5 + k = off by omega]
  ·
   simp; omega
 rw [hadd]
 match k, hk with
 | 0, _ => exact h0.trans hu
 | 1, _ => exact h1.trans hu
 | 2, _ => exact h2.trans hu
 | 3, _ => exact h3.trans hu
 | 4, _ => exact h4.trans hu
theorem run_append_cs (w : World) (base : Nat) (v : Value) (xs ys : List Cv) (ty : TypeId) (A : Option Addr) (m c : Nat) (how : OwnC w base v xs) (hN : Cs w A c ys) (hm : ys.length = m) (hA : A = none → c = 0) (hs : xs.length + m ≤ 1000000) (hb : base ≤ w.heap.size) :
  ∃ v' w', (Builtin.append_ #[22, 22] ty #[v, .slice A m c]).run Tryz.prog w = .ok v' w' ∧ OwnC w' base v' (xs ++ ys) ∧ w.grownBy w' v.ownBlock ∧ (v'.ownBlock = v.ownBlock ∨ v'.ownBlock = some w.heap.size) := by
 obtain ⟨i0, hi, hz0, hz1, hz2⟩ := info_parts Tryz.infoC
 cases A with
 | none =>
  have hc := hA rfl
  have hy : ys = [] := by
   rcases Nat.eq_zero_or_pos ys.length with h | h
   ·
    exact List.eq_nil_of_length_eq_zero h
   ·
    obtain ⟨b, off, e, _⟩ := hN.at_ h
    cases e
  subst hy
  subst hc
  subst hm
  refine ⟨v, w, run_append_owned_none (P := Tryz.prog) (w := w) base _ ty 100 i0 5 Tryz.underlying22 hi v _ _ how, ?_, ⟨rfl, rfl, rfl, Nat.le_refl _, fun _ _ _ => rfl⟩, .inl rfl⟩
  rw [List.append_nil]
  exact how
 | some ad => exact run_append_cells w base v xs ys ty ad m c how (hN.cells rfl) hm hs hb
theorem wpList_append_cs (w : World) {ops : Array Oper} {rest : List Oper} {o : Oper} {a : Act} {Q : Exit → Act → World → Prop} (hg : o.guard = none) (s x : Operand)
  (hop : o.op = Op.call { callee := Callee.builtin Builtin.append, args := #[s, x], argTypes := #[22, 22] }) (base : Nat) (v : Value) (xs ys : List Cv) (A : Option Addr) (m c : Nat)
  (hs : a.eval s = v) (hx : a.eval x = .slice A m c) (how : OwnC w base v xs) (hN : Cs w A c ys) (hm : ys.length = m) (hA : A = none → c = 0) (hsz : xs.length + m ≤ 1000000) (hb : base ≤ w.heap.size)
  (hK : ∀ v' w', OwnC w' base v' (xs ++ ys) → w.grownBy w' v.ownBlock → (v'.ownBlock = v.ownBlock ∨ v'.ownBlock = some w.heap.size) → wpList Tryz.prog ops Q rest (a.put o.dst v') w') :
  wpList Tryz.prog ops Q (o :: rest) a w := by
 refine wpList_plain hg fun K hK' => ?_
 obtain ⟨v', w', hrun, h1, h2, h3⟩ := run_append_cs w base v xs ys o.type A m c how hN hm hA hsz hb
 unfold Oper.wp execOp
 simp only [hop, resolve, invoke, builtin, Sem.run_bind, Sem.run_pure, Result.andThen_ok, List.map_toArray, List.map_cons, List.map_nil, hs, hx, hrun]
 exact hK' _ _ (hK v' w' h1 h2 h3)
def Ori (base : Nat) (P : Nat → Prop) (u : Cv) : Prop := (0 < u.xs.length → ∀ a, u.ax = some a → base ≤ a.block ∨ P a.block) ∧ (0 < u.ys.length → ∀ a, u.ay = some a → base ≤ a.block ∨ P a.block)
structure RlO (base : Nat) (P : Nat → Prop) (W : World) (v : Value) (M : List Cv) : Prop where
 o : OwnC W base v M
 ok : ∀ u ∈ M, CvU W u ∧ CvR u ∧ (∀ q, v.ownBlock = some q → Off q u) ∧ Ori base P u
theorem RlO.nil (base : Nat) (P : Nat → Prop) (W : World) : RlO base P W (.slice none 0 0) [] := ⟨OwnC.nil W base, fun u hu => by cases hu⟩
theorem RlO.next {base : Nat} {P : Nat → Prop} {W W1 : World} {v : Value} {M : List Cv} (h : RlO base P W v M) (k : Below W.heap.size W W1) : RlO base P W1 v M :=
 ⟨h.o.kept (gbN k) (own_dec (fun q _ e => by cases e)), fun u hu => by
  obtain ⟨h1, h2⟩ := h.ok u hu
  exact ⟨h1.below k, h2⟩⟩
theorem RlO.more {base : Nat} {P : Nat → Prop} {W W1 : World} {v v2 : Value} {M N : List Cv} (h : RlO base P W v M) (hN : ∀ u ∈ N, CvU W u ∧ CvR u ∧ (∀ q, v.ownBlock = some q → Off q u) ∧ Ori base P u)
  (hf : OwnC W1 base v2 (M ++ N)) (hg : W.grownBy W1 v.ownBlock) (hat : v2.ownBlock = v.ownBlock ∨ v2.ownBlock = some W.heap.size) : RlO base P W1 v2 (M ++ N) := by
 have offN : ∀ u, CvU W u → Off W.heap.size u := fun u hu => ⟨fun h0 a ea => by have := us_lt hu.1 h0 a ea; omega, fun h0 a ea => by have := us_lt hu.2.1 h0 a ea; omega⟩
 have turn : ∀ u, CvU W u → (∀ q, v.ownBlock = some q → Off q u) → CvU W1 u := fun u h1 h2 => by
  cases hv : v.ownBlock with
  | none => exact h1.below ⟨hg.os, hg.tape, hg.output, hg.size, fun q hq => hg.block q hq (by rw [hv]; simp)⟩
  | some g => exact cvU_kept h1 (fun q h3 h4 => hg.block q h3 (fun e => h4 (by rw [hv] at e; cases e; rfl))) hg.size (h2 g hv)
 have off : ∀ u, CvU W u → (∀ q, v.ownBlock = some q → Off q u) → ∀ q, v2.ownBlock = some q → Off q u := fun u h1 h2 q hq => by
  rcases hat with e | e
  ·
   exact h2 q (e.symm.trans hq)
  ·
   rw [← Option.some.inj (e.symm.trans hq)]
   exact offN u h1
 refine ⟨hf, fun u hu => ?_⟩
 have hu' : CvU W u ∧ CvR u ∧ (∀ q, v.ownBlock = some q → Off q u) ∧ Ori base P u := by
  rcases List.mem_append.1 hu with h1 | h1
  ·
   exact h.ok u h1
  ·
   exact hN u h1
 exact ⟨turn u hu'.1 hu'.2.2.1, hu'.2.1, off u hu'.1 hu'.2.2.1, hu'.2.2.2⟩
theorem us_belowB {w w' : World} {A : Option Addr} {c B : Nat} {xs : List Nat} (h : Us w A c xs) (hA : 0 < xs.length → ∀ a, A = some a → a.block < B) (hb : Below B w w') : Us w' A c xs :=
 ⟨h.1, h.2.1, h.2.2.1, fun hn => by
  obtain ⟨b, off, e, hlt, hc⟩ := h.2.2.2 hn
  exact ⟨b, off, e, Nat.lt_of_lt_of_le hlt hb.size, fun j u hu => (hb.cell (p := ⟨b, off + j, none⟩) (show b < B from hA (by simpa using hn) ⟨b, off, none⟩ e)).trans (hc j u hu)⟩⟩
structure HB_ (W : World) (B g : Nat) (s : Bool) (A : Option Addr) (c : Nat) (xs : List Nat) (n : Int) : Prop where
 x : HX W g s A c xs n
 g : g < B
 l : 0 < xs.length → ∀ a, A = some a → a.block < B
theorem HB_.keep {W W1 : World} {B g : Nat} {s : Bool} {A : Option Addr} {c : Nat} {xs : List Nat} {n : Int} (h : HB_ W B g s A c xs n) (k : Below B W W1) : HB_ W1 B g s A c xs n :=
 ⟨⟨(k.block g h.g).trans h.x.box, us_belowB h.x.us h.l k, h.x.cn, h.x.v, h.x.off⟩, h.g, h.l⟩
theorem len_near {s : Bool} {xs : List Nat} {z : Int} (hc : CanonI s xs) (hv : ival s xs = z) (h0 : -p2 1330 ≤ z) (h1 : z ≤ p2 1330) : xs.length ≤ 50 := by
 refine len_ival hc hv 50 ?_
 obtain ⟨M, hM⟩ : ∃ M, M = 50 := ⟨_, rfl⟩
 obtain ⟨N, hN⟩ : ∃ N, N = 1330 := ⟨_, rfl⟩
 rw [← hN] at h0 h1
 have h2 : (p2 N).natAbs < 4294967296 ^ M := by
  unfold p2
  rw [show ((2 : Int) ^ N).natAbs = 2 ^ N by rw [Int.natAbs_pow]; rfl, show (4294967296 : Nat) = 2 ^ 32 by decide, ← Nat.pow_mul]
  exact Nat.pow_lt_pow_right (by decide) (by omega)
 rw [← hM]
 omega
end Go.Proofs.YtajgfmfopkggdaaGreat

namespace Go.Proofs.YtajgfmfopkggdaaGreat
open Go.RowKit Nds Num
theorem ordC_lt {v u : Cv} : ordC v u < 0 ↔ ltB v.cl u.cl = true := by
 rw [ltB_iff]
 unfold ordC ltC Cv.cl
 dsimp only
 split
 ·
  rename_i h
  rw [ordI_zero] at h
  rw [ordI_neg]
  omega
 ·
  rename_i h
  rw [ordI_zero] at h
  rw [ordI_neg]
  omega
theorem ordC_eq {v u : Cv} : ordC v u = 0 ↔ (v.cl.x = u.cl.x ∧ v.cl.y = u.cl.y) := by
 unfold ordC Cv.cl
 dsimp only
 split
 ·
  rename_i h
  rw [ordI_zero] at h
  rw [ordI_zero]
  exact ⟨fun e => ⟨e, h⟩, fun e => e.1⟩
 ·
  rename_i h
  rw [ordI_zero] at h ⊢
  exact ⟨fun e => absurd e h, fun e => absurd e.2 h⟩
def insV : List Cv → Cv → List Cv
 | [], c => [c]
 | a :: l, c => if ordC a c < 0 then a :: insV l c else if ordC a c = 0 then c :: l else c :: a :: l
theorem insV_cl : ∀ (l : List Cv) (c : Cv), (insV l c).map Cv.cl = insC (l.map Cv.cl) c.cl
 | [], c => rfl
 | a :: l, c => by
  rw [List.map_cons]
  unfold insV insC
  by_cases h1 : ordC a c < 0
  ·
   rw [if_pos h1, if_pos (ordC_lt.1 h1), List.map_cons, insV_cl l c]
  ·
   rw [if_neg h1, if_neg (fun e => h1 (ordC_lt.2 e))]
   by_cases h2 : ordC a c = 0
   ·
    rw [if_pos h2, if_pos (ordC_eq.1 h2)]
    rfl
   ·
    rw [if_neg h2, if_neg (fun e => h2 (ordC_eq.2 e))]
    rfl
theorem insV_mem : ∀ {l : List Cv} {c d : Cv}, d ∈ insV l c → d = c ∨ d ∈ l
 | [], c, d, h => .inl (List.mem_singleton.1 h)
 | a :: l, c, d, h => by
  unfold insV at h
  split at h
  ·
   rcases List.mem_cons.1 h with h | h
   ·
    exact .inr (by simp [h])
   ·
    rcases insV_mem h with h | h
    ·
     exact .inl h
    ·
     exact .inr (by simp [h])
  ·
   split at h
   ·
    rcases List.mem_cons.1 h with h | h
    ·
     exact .inl h
    ·
     exact .inr (by simp [h])
   ·
    rcases List.mem_cons.1 h with h | h
    ·
     exact .inl h
    ·
     exact .inr h
theorem insV_len : ∀ (l : List Cv) (c : Cv), (insV l c).length ≤ l.length + 1
 | [], c => Nat.le_refl _
 | a :: l, c => by
  unfold insV
  split
  ·
   have := insV_len l c
   simp only [List.length_cons]
   omega
  ·
   split <;> simp
theorem insV_at : ∀ (l : List Cv) (c : Cv) (p : Nat), p ≤ l.length → (∀ j, j < p → ordC (cat l j) c < 0) → (p < l.length → ¬ ordC (cat l p) c < 0) →
  insV l c = (l.take p ++ [c]) ++ (l.drop p).drop (if p < l.length ∧ ordC (cat l p) c = 0 then 1 else 0)
 | [], c, p, h, _, _ => by
  obtain rfl : p = 0 := by simpa using h
  rfl
 | a :: l, c, 0, _, _, h3 => by
  have h4 : ¬ ordC a c < 0 := h3 (by simp)
  unfold insV
  rw [if_neg h4]
  by_cases h5 : ordC a c = 0
  ·
   rw [if_pos h5, if_pos ⟨by simp, h5⟩]
   rfl
  ·
   rw [if_neg h5, if_neg (fun e => h5 e.2)]
   rfl
 | a :: l, c, p + 1, h1, h2, h3 => by
  have h4 : ordC a c < 0 := h2 0 (by omega)
  have ih := insV_at l c p (by simpa using h1) (fun j hj => h2 (j + 1) (by omega)) (fun hp => h3 (by simpa using hp))
  unfold insV
  rw [if_pos h4, ih]
  have e : (p + 1 < (a :: l).length ∧ ordC (cat (a :: l) (p + 1)) c = 0) ↔ (p < l.length ∧ ordC (cat l p) c = 0) := by
   rw [List.length_cons, Nat.add_lt_add_iff_right]
   rfl
  simp only [e, List.take_succ_cons, List.drop_succ_cons, List.cons_append]
def insVs (l : List Cv) : List Cv := l.foldl insV []
theorem insVs_snoc (l : List Cv) (c : Cv) : insVs (l ++ [c]) = insV (insVs l) c := by
 unfold insVs
 rw [List.foldl_append]
 rfl
theorem insVs_spec (l : List Cv) : ∀ k, k ≤ l.length → (insVs (l.take k)).map Cv.cl = insAll ((l.take k).map Cv.cl) ∧ (∀ u ∈ insVs (l.take k), u ∈ l) ∧ (insVs (l.take k)).length ≤ k := by
 intro k
 induction k with
 | zero => exact fun _ => ⟨rfl, (fun u hu => by cases hu), Nat.le_refl _⟩
 | succ k ih =>
  intro hk
  obtain ⟨i1, i2, i3⟩ := ih (by omega)
  rw [List.take_succ_eq_append_getElem (by omega), insVs_snoc]
  refine ⟨?_, fun u hu => ?_, ?_⟩
  ·
   rw [insV_cl, i1, List.map_append, List.map_singleton, insAll_snoc]
  ·
   rcases insV_mem hu with rfl | hu
   ·
    exact List.getElem_mem _
   ·
    exact i2 u hu
  ·
   have := insV_len (insVs (l.take k)) l[k]
   omega
theorem insVs_next (l : List Cv) {k : Nat} (hk : k < l.length) : insVs (l.take (k + 1)) = insV (insVs (l.take k)) (cat l k) := by
 rw [List.take_succ_eq_append_getElem hk, insVs_snoc, cat_get hk]
theorem Cs.cut {w : World} {A : Option Addr} {c : Nat} {l : List Cv} (h : Cs w A c l) (k : Nat) : Cs w A c (l.take k) := by
 refine ⟨fun v hv => h.1 v (List.mem_of_mem_take hv), Nat.le_trans (by rw [List.length_take]; omega) h.2.1, h.2.2.1, fun hn => ?_⟩
 rw [List.length_take] at hn
 obtain ⟨b, off, e, hb, hc⟩ := h.2.2.2 (by omega)
 refine ⟨b, off, e, hb, fun i hi => ?_⟩
 rw [List.length_take] at hi
 have e2 : cat (l.take k) i = cat l i := by
  unfold cat
  rw [List.getElem?_take, if_pos (by omega)]
 rw [e2]
 exact hc i (by omega)
theorem Cs.rest {w : World} {b off c : Nat} {l : List Cv} (h : Cs w (some ⟨b, off, none⟩) c l) {k : Nat} (hk : k ≤ l.length) : Cs w (some ⟨b, off + k * 5, none⟩) (c - k) (l.drop k) := by
 refine ⟨fun v hv => h.1 v (List.mem_of_mem_drop hv), by have := h.2.1; rw [List.length_drop]; omega, by have := h.2.2.1; omega, fun hn => ?_⟩
 rw [List.length_drop] at hn
 obtain ⟨b', off', e, hb, hc⟩ := h.2.2.2 (by omega)
 cases e
 refine ⟨b, off + k * 5, rfl, hb, fun i hi => ?_⟩
 rw [List.length_drop] at hi
 have e2 : cat (l.drop k) i = cat l (k + i) := by
  unfold cat
  rw [List.getElem?_drop]
 rw [e2, show off + k * 5 + i * 5 = off + (k + i) * 5 by omega]
 exact hc (k + i) (by omega)
theorem run_append_cut (w : World) (y : Cv) (ty : TypeId) (A : Option Addr) (p d : Nat) (xs : List Cv) (ad : Addr) (hp : xs.length = p) (hN : Cs w A d xs) (hA : A = none → p = 0) (hy : ∀ j u, (cvcs [y])[j]? = some u → w.cell? (ad.add j) = some u) (c : Nat) (hs : p + 1 ≤ 1000000) :
  ∃ v' w', (Builtin.append_ #[22, 22] ty #[.slice A p p, .slice (some ad) 1 c]).run Tryz.prog w = .ok v' w' ∧ OwnC w' w.heap.size v' (xs ++ [y]) ∧ w.grownBy w' none := by
 obtain ⟨i0, hi, hz0, hz1, hz2⟩ := info_parts Tryz.infoC
 subst hp
 cases A with
 | none =>
  have h0 := List.eq_nil_of_length_eq_zero (hA rfl)
  subst h0
  obtain ⟨v', w', hrun, h1, h2, _⟩ := run_append_cells w w.heap.size (.slice none 0 0) [] [y] ty ad 1 c (OwnC.nil w _) hy rfl (by simp) (Nat.le_refl _)
  exact ⟨v', w', hrun, h1, h2⟩
 | some b =>
  obtain ⟨v', w', hrun, h1, h2⟩ := run_append_arg_grows (P := Tryz.prog) w 22 ty 100 i0 (cvv cv0) 5 72 Tryz.underlying22 hi hz0 hz1 hz2 rfl (by omega) b xs.length xs.length (cvcs xs) (cvcs_len xs) (hN.cells rfl) ad 1 c (cvcs [y]) (cvcs_len [y]) hy (by omega) (by simp only [maxLen]; omega) (by omega)
  refine ⟨v', w', hrun, ?_, h2⟩
  unfold OwnC
  rw [cvcs_app, List.length_append]
  exact h1
theorem oper_append_cut {w : World} {o : Oper} {a : Act} {K : Act → World → Prop} {Q : Exit → Act → World → Prop} (s x : Operand)
  (hop : o.op = Op.call { callee := Callee.builtin Builtin.append, args := #[s, x], argTypes := #[22, 22] }) (y : Cv) (A : Option Addr) (p d : Nat) (xs : List Cv) (ad : Addr) (c : Nat)
  (hs : a.eval s = .slice A p p) (hx : a.eval x = .slice (some ad) 1 c) (hp : xs.length = p) (hN : Cs w A d xs) (hA : A = none → p = 0) (hy : ∀ j u, (cvcs [y])[j]? = some u → w.cell? (ad.add j) = some u) (hsz : p + 1 ≤ 1000000)
  (h : ∀ v' w', OwnC w' w.heap.size v' (xs ++ [y]) → w.grownBy w' none → K (a.put o.dst v') w') : Oper.wp Tryz.prog o a w K Q := by
 obtain ⟨v', w', hrun, h1, h2⟩ := run_append_cut w y o.type A p d xs ad hp hN hA hy c hsz
 unfold Oper.wp execOp
 simp only [hop, resolve, invoke, builtin, Sem.run_bind, Sem.run_pure, Result.andThen_ok, List.map_toArray, List.map_cons, List.map_nil, hs, hx, hrun]
 exact h v' w' h1 h2
theorem oper_append_cs {w : World} {o : Oper} {a : Act} {K : Act → World → Prop} {Q : Exit → Act → World → Prop} (s x : Operand)
  (hop : o.op = Op.call { callee := Callee.builtin Builtin.append, args := #[s, x], argTypes := #[22, 22] }) (base : Nat) (v : Value) (xs ys : List Cv) (A : Option Addr) (m c : Nat)
  (hs : a.eval s = v) (hx : a.eval x = .slice A m c) (how : OwnC w base v xs) (hN : Cs w A c ys) (hm : ys.length = m) (hA : A = none → c = 0) (hsz : xs.length + m ≤ 1000000) (hb : base ≤ w.heap.size)
  (h : ∀ v' w', OwnC w' base v' (xs ++ ys) → w.grownBy w' v.ownBlock → (v'.ownBlock = v.ownBlock ∨ v'.ownBlock = some w.heap.size) → K (a.put o.dst v') w') : Oper.wp Tryz.prog o a w K Q := by
 obtain ⟨v', w', hrun, h1, h2, h3⟩ := run_append_cs w base v xs ys o.type A m c how hN hm hA hsz hb
 unfold Oper.wp execOp
 simp only [hop, resolve, invoke, builtin, Sem.run_bind, Sem.run_pure, Result.andThen_ok, List.map_toArray, List.map_cons, List.map_nil, hs, hx, hrun]
 exact h v' w' h1 h2 h3
theorem cs_none (w : World) (A : Option Addr) {c : Nat} (h : c ≤ maxLen) : Cs w A c [] := ⟨(fun v hv => by cases hv), Nat.zero_le _, h, fun h0 => absurd h0 (Nat.lt_irrefl 0)⟩
theorem ownC_start (w : World) {base : Nat} (h : base ≤ w.heap.size) : OwnC (w.alloc (.cells #[] 100)) base (.slice (some ⟨w.heap.size, 0, none⟩) 0 0) [] := World.ownsRow_made w #[] 0 h (by simp [maxLen]) rfl
theorem put_in {l M : List Cv} {i p : Nat} {x : Cv} (hM : M = insVs (l.take i)) (hx : x = cat l i) (hi : i < l.length) (hp : p ≤ M.length) (h1 : ∀ j, j < p → ordC (cat M j) x < 0) (h2 : p < M.length → ¬ ordC (cat M p) x < 0) :
  insVs (l.take (i + 1)) = (M.take p ++ [x]) ++ (M.drop p).drop (if p < M.length ∧ ordC (cat M p) x = 0 then 1 else 0) := by
 rw [insVs_next l hi, ← hM, ← hx]
 exact insV_at M x p hp h1 h2
theorem filter_cl : ∀ M : List Cv, (M.filter fun u => u.st != 0).map Cv.cl = (M.map Cv.cl).filter fun c => c.s != 0
 | [] => rfl
 | u :: M => by
  have e : (u.cl.s != 0) = (u.st != 0) := by
   show (((u.st : Nat) : Int) != 0) = _
   rw [Bool.eq_iff_iff]
   simp
  rw [List.map_cons, List.filter_cons, List.filter_cons, e]
  split
  ·
   rw [List.map_cons, filter_cl M]
  ·
   exact filter_cl M
theorem last_cl {l M : List Cv} {n : Nat} (hM : M = insVs (l.take n)) (hn : l.length = n) : (M.filter fun u => u.st != 0).map Cv.cl = lastF (l.map Cv.cl) := by
 subst hn
 rw [filter_cl, hM, (insVs_spec l l.length (Nat.le_refl _)).1, List.take_length]
 rfl
theorem filter_next {M : List Cv} {q : Nat} {y : Cv} (hq : q < M.length) (hy : y = cat M q) : (M.take (q + 1)).filter (fun u => u.st != 0) = (M.take q).filter (fun u => u.st != 0) ++ (if y.st = 0 then [] else [y]) := by
 rw [List.take_succ_eq_append_getElem hq, List.filter_append, ← cat_get hq, ← hy]
 congr 1
 rw [List.filter_cons, List.filter_nil]
 by_cases h : y.st = 0
 ·
  rw [if_pos h, if_neg (by rw [h]; decide)]
 ·
  rw [if_neg h, if_pos (by simpa using h)]
end Go.Proofs.YtajgfmfopkggdaaGreat
