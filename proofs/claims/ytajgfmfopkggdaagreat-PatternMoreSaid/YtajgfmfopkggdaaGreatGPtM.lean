/-
  pattern: PatternMore, the walk.
-/
import Derived.Test.YtajgfmfopkggdaaGreatGPtC

set_option linter.unusedVariables false
set_option linter.unusedSimpArgs false
set_option maxRecDepth 100000
namespace Go.Proofs.YtajgfmfopkggdaaGreat
open Go.RowKit Num Nds Txt
def ruleA : ByteArray := ⟨#[97]⟩
theorem ruleA_yes : ruleB ruleA.data.toList = true := by kernel_rfl
structure Pw (w W : World) (A : Option Addr) (c n : Nat) (q : List Nd) (s : ByteArray) (gp gl gw : Nat) (box nodes wb : Int) : Prop where
 pa : Pa w W A c n q s gp gl box nodes
 wk : W.heap[gw]? = some (.cells #[.int .i64 wb, .int .i64 nodes] 54)
section
variable {w W W' : World} {A : Option Addr} {c n : Nat} {q : List Nd} {s : ByteArray} {gp gl gw : Nat} {box nodes wb : Int}
theorem Pw.next (h : Pw w W A c n q s gp gl gw box nodes wb) (k : Below W.heap.size W W') : Pw w W' A c n q s gp gl gw box nodes wb := ⟨h.pa.next k, (k.block _ (heapLt h.wk)).trans h.wk⟩
theorem Pw.cells (h : Pw w W A c n q s gp gl gw box nodes wb) :
  W.cell? ⟨gp, 0, none⟩ = some (.string s) ∧ W.cell? ⟨gp, 1, none⟩ = some (.slice A n c) ∧ W.cell? ⟨gl, 0, none⟩ = some (.int .i64 box) ∧ W.cell? ⟨gl, 1, none⟩ = some (.int .i64 nodes) ∧ W.cell? ⟨gw, 0, none⟩ = some (.int .i64 wb) ∧ W.cell? ⟨gw, 1, none⟩ = some (.int .i64 nodes) :=
 ⟨h.pa.cells.1, h.pa.cells.2.1, h.pa.cells.2.2.1, h.pa.cells.2.2.2, (lim_cells h.wk).1, (lim_cells h.wk).2⟩
theorem Pa.wide (h : Pa w W A c n q s gp gl box nodes) (wb : Int) : Pw w (W.alloc (.cells #[.int .i64 wb, .int .i64 nodes] 54)) A c n q s gp gl W.heap.size box nodes wb :=
 ⟨h.next ((Below.refl _ _).alloc (Nat.le_refl _) _), heap_alloc_new W _⟩
end
set_option maxHeartbeats 6400000 in
theorem pmore_no
  (A : Option Addr) (c n : Nat) (l : List Cv) (box nodes : Int) (k : Nat) (w : World) (h : Cs w A c l) (hn : l.length = n) (hb : -9223372036854775808 ≤ box ∧ box ≤ 9223372036854775807) (hk : k ≤ 255) (hr : (mayB l 30 && ruleB ruleA.data.toList) = false) :
  Calls Tryz.prog 9 #[.slice A n c, .agg #[.int .i64 box, .int .i64 nodes], .int .u8 k] w fun e w' => e = .returned (.bool true) ∧ Below w.heap.size w w' := by
 have hcap := h.cap
 rw [hn] at hcap
 have L0 := Lib.hid (Li.start w box nodes)
 have HC := Lib.hid h
 have HL := Lib.hid hn
 have e1 : IntKind.i64.wrap (k : Int) = (k : Int) := IntWalk.i64_in _ (by omega)
 obtain ⟨wb, e2⟩ : ∃ wb, IntKind.i64.wrap (box + (k : Int)) = wb := ⟨_, rfl⟩
 have q0 : True := trivial
 have HR := Lib.hid hr
 clear h hn hk hr hb
 go_enter Tryz.func9, Tryz.ntmps9
 rw [show (⟨#[97]⟩ : ByteArray) = ruleA from rfl]
 go_wp2_with (first
  | (have _t := q0; go_at_call 29; clear _t; go_loud (refine (alive11_any _).mono ?_; rintro e w1 ⟨rfl, b_⟩; have L1 := Lib.hid (L0.out.next b_); obtain ⟨l0, l1⟩ := lim_cells L1.out.lk; clear b_; have q1 := q0; clear q0))
  | (have _t := q1; go_at_call 40; clear _t; go_loud (refine (rpof_any A c n 30 ruleA l _ (by decide) (HC.out.below L1.out.b) HL.out (by omega)).mono ?_; rintro e w3 ⟨A5, z5, qn, q, ok, rfl, l5, n5, a5, b_, hok, -, -⟩; rw [hok, HR.out]; have hc5 := n5.cap; rw [l5] at hc5; have L1 := Lib.hid (L1.out.next b_); have PP := Lib.hid (L1.out.pat (n := qn) n5 ruleA); clear l0 l1 b_ n5 a5 l5 hok; obtain ⟨c0, c1, c2, c3⟩ := PP.out.cells; have q2 := q1; clear q1)))
 go_ret
 exact ⟨rfl, (PP.out.wide wb).pa.b⟩
set_option maxHeartbeats 6400000 in
theorem pmore_f1
  (A : Option Addr) (c n : Nat) (l : List Cv) (box nodes : Int) (k : Nat) (w : World) (h : Cs w A c l) (hn : l.length = n) (hb : -9223372036854775808 ≤ box ∧ box ≤ 9223372036854775807) (hk : k ≤ 255) (hmy : mayB l 30 = true) (hf : fineB box nodes = false) :
  Calls Tryz.prog 9 #[.slice A n c, .agg #[.int .i64 box, .int .i64 nodes], .int .u8 k] w fun e w' => e = .returned (.bool true) ∧ Below w.heap.size w w' := by
 have hcap := h.cap
 rw [hn] at hcap
 have L0 := Lib.hid (Li.start w box nodes)
 have HC := Lib.hid h
 have HL := Lib.hid hn
 have e1 : IntKind.i64.wrap (k : Int) = (k : Int) := IntWalk.i64_in _ (by omega)
 obtain ⟨wb, e2⟩ : ∃ wb, IntKind.i64.wrap (box + (k : Int)) = wb := ⟨_, rfl⟩
 have q0 : True := trivial
 have HMY := Lib.hid hmy
 have HR := Lib.hid (show (mayB l 30 && ruleB ruleA.data.toList) = true by rw [hmy, ruleA_yes]; rfl)
 have HFm := Lib.hid hf
 clear h hn hk hmy hf hb
 go_enter Tryz.func9, Tryz.ntmps9
 rw [show (⟨#[97]⟩ : ByteArray) = ruleA from rfl]
 go_wp2_with (first
  | (have _t := q0; go_at_call 29; clear _t; go_loud (refine (alive11_any _).mono ?_; rintro e w1 ⟨rfl, b_⟩; have L1 := Lib.hid (L0.out.next b_); obtain ⟨l0, l1⟩ := lim_cells L1.out.lk; clear b_; have q1 := q0; clear q0))
  | (have _t := q1; go_at_call 40; clear _t; go_loud (refine (rpof_any A c n 30 ruleA l _ (by decide) (HC.out.below L1.out.b) HL.out (by omega)).mono ?_; rintro e w3 ⟨A5, z5, qn, q, ok, rfl, l5, n5, a5, b_, hok, -, hqo⟩; rw [hok, HR.out]; have HQ := Lib.hid (hqo (hok.trans HMY.out)); have hc5 := n5.cap; rw [l5] at hc5; have H5 := Lib.hid l5; have L1 := Lib.hid (L1.out.next b_); have PP := Lib.hid (L1.out.pat (n := qn) n5 ruleA); have pw0 := PP.out.wide wb; rw [World.size_alloc] at pw0; have PW := Lib.hid pw0; clear pw0 l0 l1 b_ n5 a5 l5 hok hqo; obtain ⟨d0, d1, d2, d3⟩ := PP.out.cells; obtain ⟨c0, c1, c2, c3, c4, c5⟩ := PW.out.cells; have q2 := q1; clear q1))
  | (have _t := q2; go_at_call 33; clear _t; go_loud (clear d0 d1 d2 d3; refine (rfine_any box nodes _).mono ?_; rintro e w4 ⟨rfl, b_⟩; rw [HFm.out]; have PW := Lib.hid (PW.out.next b_); clear c0 c1 c2 c3 c4 c5 b_; obtain ⟨c0, c1, c2, c3, c4, c5⟩ := PW.out.cells; have q3 := q2; clear q2)))
 go_ret
 exact ⟨rfl, PW.out.pa.b⟩
set_option maxHeartbeats 6400000 in
theorem pmore_f2
  (A : Option Addr) (c n : Nat) (l : List Cv) (box nodes : Int) (k : Nat) (w : World) (h : Cs w A c l) (hn : l.length = n) (hb : -9223372036854775808 ≤ box ∧ box ≤ 9223372036854775807) (hk : k ≤ 255) (hmy : mayB l 30 = true) (hf : fineB box nodes = true) (hg : fineB (IntKind.i64.wrap (box + (k : Int))) nodes = false) :
  Calls Tryz.prog 9 #[.slice A n c, .agg #[.int .i64 box, .int .i64 nodes], .int .u8 k] w fun e w' => e = .returned (.bool true) ∧ Below w.heap.size w w' := by
 have hcap := h.cap
 rw [hn] at hcap
 have L0 := Lib.hid (Li.start w box nodes)
 have HC := Lib.hid h
 have HL := Lib.hid hn
 have e1 : IntKind.i64.wrap (k : Int) = (k : Int) := IntWalk.i64_in _ (by omega)
 obtain ⟨wb, e2⟩ : ∃ wb, IntKind.i64.wrap (box + (k : Int)) = wb := ⟨_, rfl⟩
 have q0 : True := trivial
 have HMY := Lib.hid hmy
 have HR := Lib.hid (show (mayB l 30 && ruleB ruleA.data.toList) = true by rw [hmy, ruleA_yes]; rfl)
 have HFm := Lib.hid hf
 rw [e2] at hg
 have HFw := Lib.hid hg
 clear h hn hk hmy hf hg hb
 go_enter Tryz.func9, Tryz.ntmps9
 rw [show (⟨#[97]⟩ : ByteArray) = ruleA from rfl]
 go_wp2_with (first
  | (have _t := q0; go_at_call 29; clear _t; go_loud (refine (alive11_any _).mono ?_; rintro e w1 ⟨rfl, b_⟩; have L1 := Lib.hid (L0.out.next b_); obtain ⟨l0, l1⟩ := lim_cells L1.out.lk; clear b_; have q1 := q0; clear q0))
  | (have _t := q1; go_at_call 40; clear _t; go_loud (refine (rpof_any A c n 30 ruleA l _ (by decide) (HC.out.below L1.out.b) HL.out (by omega)).mono ?_; rintro e w3 ⟨A5, z5, qn, q, ok, rfl, l5, n5, a5, b_, hok, -, hqo⟩; rw [hok, HR.out]; have HQ := Lib.hid (hqo (hok.trans HMY.out)); have hc5 := n5.cap; rw [l5] at hc5; have H5 := Lib.hid l5; have L1 := Lib.hid (L1.out.next b_); have PP := Lib.hid (L1.out.pat (n := qn) n5 ruleA); have pw0 := PP.out.wide wb; rw [World.size_alloc] at pw0; have PW := Lib.hid pw0; clear pw0 l0 l1 b_ n5 a5 l5 hok hqo; obtain ⟨d0, d1, d2, d3⟩ := PP.out.cells; obtain ⟨c0, c1, c2, c3, c4, c5⟩ := PW.out.cells; have q2 := q1; clear q1))
  | (have _t := q2; go_at_call 33; clear _t; go_loud (clear d0 d1 d2 d3; refine (rfine_any box nodes _).mono ?_; rintro e w4 ⟨rfl, b_⟩; rw [HFm.out]; have PW := Lib.hid (PW.out.next b_); clear c0 c1 c2 c3 c4 c5 b_; obtain ⟨c0, c1, c2, c3, c4, c5⟩ := PW.out.cells; have q3 := q2; clear q2))
  | (have _t := q3; go_at_call 33; clear _t; go_loud (refine (rfine_any wb nodes _).mono ?_; rintro e w5 ⟨rfl, b_⟩; rw [HFw.out]; have PW := Lib.hid (PW.out.next b_); clear c0 c1 c2 c3 c4 c5 b_; obtain ⟨c0, c1, c2, c3, c4, c5⟩ := PW.out.cells; have q4 := q3; clear q3)))
 go_ret
 exact ⟨rfl, PW.out.pa.b⟩
set_option maxHeartbeats 6400000 in
theorem pmore_main
  (A : Option Addr) (c n : Nat) (l : List Cv) (box nodes : Int) (k : Nat) (w : World) (h : Cs w A c l) (hn : l.length = n) (hb : -9223372036854775808 ≤ box ∧ box ≤ 9223372036854775807) (hk : k ≤ 255) (hmy : mayB l 30 = true) (hf : fineB box nodes = true) (hg : fineB (IntKind.i64.wrap (box + (k : Int))) nodes = true) :
  Calls Tryz.prog 9 #[.slice A n c, .agg #[.int .i64 box, .int .i64 nodes], .int .u8 k] w fun e w' => e = .returned (.bool true) ∧ Below w.heap.size w w' := by
 have hcap := h.cap
 rw [hn] at hcap
 have L0 := Lib.hid (Li.start w box nodes)
 have HC := Lib.hid h
 have HL := Lib.hid hn
 have e1 : IntKind.i64.wrap (k : Int) = (k : Int) := IntWalk.i64_in _ (by omega)
 obtain ⟨wb, e2⟩ : ∃ wb, IntKind.i64.wrap (box + (k : Int)) = wb := ⟨_, rfl⟩
 have q0 : True := trivial
 have HMY := Lib.hid hmy
 have HR := Lib.hid (show (mayB l 30 && ruleB ruleA.data.toList) = true by rw [hmy, ruleA_yes]; rfl)
 have HFm := Lib.hid hf
 rw [e2] at hg
 have HFw := Lib.hid hg
 have HWB := Lib.hid (show (-9223372036854775808 ≤ wb ∧ wb ≤ 9223372036854775807) ∧ box ≤ wb by
  have g1 := of_decide_eq_true hf
  have g2 := of_decide_eq_true hg
  have : wb = box + (k : Int) := by rw [← e2]; exact IntWalk.i64_in _ (by omega)
  omega)
 clear h hn hk hmy hf hg
 go_enter Tryz.func9, Tryz.ntmps9
 rw [show (⟨#[97]⟩ : ByteArray) = ruleA from rfl]
 go_wp2_with (first
  | (have _t := q0; go_at_call 29; clear _t; go_loud (refine (alive11_any _).mono ?_; rintro e w1 ⟨rfl, b_⟩; have L1 := Lib.hid (L0.out.next b_); obtain ⟨l0, l1⟩ := lim_cells L1.out.lk; clear b_; have q1 := q0; clear q0))
  | (have _t := q1; go_at_call 40; clear _t; go_loud (refine (rpof_any A c n 30 ruleA l _ (by decide) (HC.out.below L1.out.b) HL.out (by omega)).mono ?_; rintro e w3 ⟨A5, z5, qn, q, ok, rfl, l5, n5, a5, b_, hok, -, hqo⟩; rw [hok, HR.out]; have HQ := Lib.hid (hqo (hok.trans HMY.out)); have hc5 := n5.cap; rw [l5] at hc5; have H5 := Lib.hid l5; have L1 := Lib.hid (L1.out.next b_); have PP := Lib.hid (L1.out.pat (n := qn) n5 ruleA); have pw0 := PP.out.wide wb; rw [World.size_alloc] at pw0; have PW := Lib.hid pw0; clear pw0 l0 l1 b_ n5 a5 l5 hok hqo; obtain ⟨d0, d1, d2, d3⟩ := PP.out.cells; obtain ⟨c0, c1, c2, c3, c4, c5⟩ := PW.out.cells; have q2 := q1; clear q1))
  | (have _t := q2; go_at_call 33; clear _t; go_loud (clear d0 d1 d2 d3; refine (rfine_any box nodes _).mono ?_; rintro e w4 ⟨rfl, b_⟩; rw [HFm.out]; have PW := Lib.hid (PW.out.next b_); clear c0 c1 c2 c3 c4 c5 b_; obtain ⟨c0, c1, c2, c3, c4, c5⟩ := PW.out.cells; have q3 := q2; clear q2))
  | (have _t := q3; go_at_call 33; clear _t; go_loud (refine (rfine_any wb nodes _).mono ?_; rintro e w5 ⟨rfl, b_⟩; rw [HFw.out]; have PW := Lib.hid (PW.out.next b_); clear c0 c1 c2 c3 c4 c5 b_; obtain ⟨c0, c1, c2, c3, c4, c5⟩ := PW.out.cells; have q4 := q3; clear q3)))
 have HQN := Lib.hid (pq_len HL.out HMY.out HQ.out H5.out)
 clear q4
 go_loopw [10] (fun z wr => ∃ f : Int, z = .int .i64 f ∧ 1 ≤ f ∧ f ≤ 6 ∧ Pw w wr A5 z5 qn q ruleA w3.heap.size w.heap.size (w3.heap.size + 1) box nodes wb) (fun z _ => (6 - intOf z).toNat)
 case atStart => exact ⟨1, rfl, by omega, by omega, PW.out⟩
 case round =>
  obtain ⟨f, rfl, f0, f8, hp⟩ := hrel
  clear PW PP c0 c1 c2 c3 c4 c5
  have q4 : True := trivial
  by_cases hlt : f ≤ 5
  ·
   have t8 : decide (f ≤ 5) = true := decide_eq_true hlt
   have fw : IntKind.i64.wrap (f + 1) = f + 1 := IntWalk.i64_in _ (by omega)
   have F5 := Lib.hid (show 1 ≤ f ∧ f ≤ 5 from ⟨f0, hlt⟩)
   have PW := Lib.hid hp
   obtain ⟨c0, c1, c2, c3, c4, c5⟩ := hp.cells
   clear hp f0 f8 hlt
   rcases Classical.em (ExpP f q qn box) with he | he
   ·
    have HE := Lib.hid he
    clear he
    by_cases h4 : f < 4
    ·
     have t4 : decide (f < 4) = true := decide_eq_true h4
     have F4 := Lib.hid h4
     clear h4
     go_wp2_with (first
      | (have _t := q4; go_at_call 41; clear _t; go_loud (refine (pexpress_any A5 z5 qn ruleA q f box nodes _ PW.out.pa.ns H5.out HQN.out HQ.out.good (by have := F5.out; omega) hb).mono ?_; rintro e w6 ⟨b, rfl, hk, -, b_⟩; obtain rfl : b = true := hk.2 HE.out; clear hk; have PW := Lib.hid (PW.out.next b_); clear c0 c1 c2 c3 c4 c5 b_; obtain ⟨c0, c1, c2, c3, c4, c5⟩ := PW.out.cells; have q5 := q4; clear q4))
      | (have _t := q5; go_at_call 41; clear _t; go_loud (refine (pexpress_any A5 z5 qn ruleA q f wb nodes _ PW.out.pa.ns H5.out HQN.out HQ.out.good (by have := F5.out; omega) HWB.out.1).mono ?_; rintro e w7 ⟨b, rfl, hk, -, b_⟩; obtain rfl : b = true := hk.2 (HE.out.more HWB.out.2); clear hk; have PW := Lib.hid (PW.out.next b_); clear c0 c1 c2 c3 c4 c5 b_; obtain ⟨c0, c1, c2, c3, c4, c5⟩ := PW.out.cells; have q6 := q5; clear q5))
      | (have _t := q6; go_at_call 41; clear _t; go_loud (refine (pexpress_any A5 z5 qn ruleA q 5 box nodes _ PW.out.pa.ns H5.out HQN.out HQ.out.good (by have := F5.out; omega) hb).mono ?_; rintro e w8 ⟨b, rfl, hk, -, b_⟩; obtain rfl : b = true := hk.2 (.inl rfl); clear hk; have PW := Lib.hid (PW.out.next b_); clear c0 c1 c2 c3 c4 c5 b_; obtain ⟨c0, c1, c2, c3, c4, c5⟩ := PW.out.cells; have q7 := q6; clear q6))
      | (have _t := q7; go_at_call 41; clear _t; go_loud (refine (pexpress_any A5 z5 qn ruleA q f box nodes _ PW.out.pa.ns H5.out HQN.out HQ.out.good (by have := F5.out; omega) hb).mono ?_; rintro e w9 ⟨b, rfl, hk, -, b_⟩; obtain rfl : b = true := hk.2 HE.out; clear hk; have PW := Lib.hid (PW.out.next b_); clear c0 c1 c2 c3 c4 c5 b_; obtain ⟨c0, c1, c2, c3, c4, c5⟩ := PW.out.cells; have q8 := q7; clear q7))
      | (have _t := q8; go_at_call 41; clear _t; go_loud (refine (pexpress_any A5 z5 qn ruleA q 4 box nodes _ PW.out.pa.ns H5.out HQN.out HQ.out.good (by have := F5.out; omega) hb).mono ?_; rintro e w10 ⟨b, rfl, hk, -, b_⟩; obtain rfl : b = true := hk.2 (HE.out.four (by have := F4.out; omega)); clear hk; have PW := Lib.hid (PW.out.next b_); clear c0 c1 c2 c3 c4 c5 b_; obtain ⟨c0, c1, c2, c3, c4, c5⟩ := PW.out.cells; have q9 := q8; clear q8)))
     go_roundw
     case rel => exact ⟨f + 1, by have := F5.out; go_num, by have := F5.out; omega, by have := F5.out; omega, PW.out⟩
     case measure => have := F5.out; simp [intOf]; omega
    ·
     have t4 : decide (f < 4) = false := decide_eq_false h4
     clear h4
     go_wp2_with (first
      | (have _t := q4; go_at_call 41; clear _t; go_loud (refine (pexpress_any A5 z5 qn ruleA q f box nodes _ PW.out.pa.ns H5.out HQN.out HQ.out.good (by have := F5.out; omega) hb).mono ?_; rintro e w6 ⟨b, rfl, hk, -, b_⟩; obtain rfl : b = true := hk.2 HE.out; clear hk; have PW := Lib.hid (PW.out.next b_); clear c0 c1 c2 c3 c4 c5 b_; obtain ⟨c0, c1, c2, c3, c4, c5⟩ := PW.out.cells; have q5 := q4; clear q4))
      | (have _t := q5; go_at_call 41; clear _t; go_loud (refine (pexpress_any A5 z5 qn ruleA q f wb nodes _ PW.out.pa.ns H5.out HQN.out HQ.out.good (by have := F5.out; omega) HWB.out.1).mono ?_; rintro e w7 ⟨b, rfl, hk, -, b_⟩; obtain rfl : b = true := hk.2 (HE.out.more HWB.out.2); clear hk; have PW := Lib.hid (PW.out.next b_); clear c0 c1 c2 c3 c4 c5 b_; obtain ⟨c0, c1, c2, c3, c4, c5⟩ := PW.out.cells; have q6 := q5; clear q5))
      | (have _t := q6; go_at_call 41; clear _t; go_loud (refine (pexpress_any A5 z5 qn ruleA q 5 box nodes _ PW.out.pa.ns H5.out HQN.out HQ.out.good (by have := F5.out; omega) hb).mono ?_; rintro e w8 ⟨b, rfl, hk, -, b_⟩; obtain rfl : b = true := hk.2 (.inl rfl); clear hk; have PW := Lib.hid (PW.out.next b_); clear c0 c1 c2 c3 c4 c5 b_; obtain ⟨c0, c1, c2, c3, c4, c5⟩ := PW.out.cells; have q7 := q6; clear q6))
      | (have _t := q7; go_at_call 41; clear _t; go_loud (refine (pexpress_any A5 z5 qn ruleA q f box nodes _ PW.out.pa.ns H5.out HQN.out HQ.out.good (by have := F5.out; omega) hb).mono ?_; rintro e w9 ⟨b, rfl, hk, -, b_⟩; obtain rfl : b = true := hk.2 HE.out; clear hk; have PW := Lib.hid (PW.out.next b_); clear c0 c1 c2 c3 c4 c5 b_; obtain ⟨c0, c1, c2, c3, c4, c5⟩ := PW.out.cells; have q8 := q7; clear q7)))
     go_roundw
     case rel => exact ⟨f + 1, by have := F5.out; go_num, by have := F5.out; omega, by have := F5.out; omega, PW.out⟩
     case measure => have := F5.out; simp [intOf]; omega
   ·
    have HE := Lib.hid he
    clear he
    go_wp2_with (first
     | (have _t := q4; go_at_call 41; clear _t; go_loud (refine (pexpress_any A5 z5 qn ruleA q f box nodes _ PW.out.pa.ns H5.out HQN.out HQ.out.good (by have := F5.out; omega) hb).mono ?_; rintro e w6 ⟨b, rfl, hk, -, b_⟩; obtain rfl : b = false := Bool.eq_false_iff.2 (fun h => HE.out (hk.1 h)); clear hk; have PW := Lib.hid (PW.out.next b_); clear c0 c1 c2 c3 c4 c5 b_; obtain ⟨c0, c1, c2, c3, c4, c5⟩ := PW.out.cells; have q5 := q4; clear q4))
     | (have _t := q5; go_at_call 41; clear _t; go_loud (refine (pexpress_any A5 z5 qn ruleA q f box nodes _ PW.out.pa.ns H5.out HQN.out HQ.out.good (by have := F5.out; omega) hb).mono ?_; rintro e w7 ⟨b, rfl, hk, -, b_⟩; obtain rfl : b = false := Bool.eq_false_iff.2 (fun h => HE.out (hk.1 h)); clear hk; have PW := Lib.hid (PW.out.next b_); clear c0 c1 c2 c3 c4 c5 b_; obtain ⟨c0, c1, c2, c3, c4, c5⟩ := PW.out.cells; have q6 := q5; clear q5)))
    go_roundw
    case rel => exact ⟨f + 1, by have := F5.out; go_num, by have := F5.out; omega, by have := F5.out; omega, PW.out⟩
    case measure => have := F5.out; simp [intOf]; omega
  ·
   have t8 : decide (f ≤ 5) = false := decide_eq_false hlt
   have HP := Lib.hid hp
   clear hp hlt f0 f8
   go_wp2_with fail
   go_ret
   exact ⟨rfl, HP.out.pa.b⟩
theorem pmore_law (A : Option Addr) (c : Nat) (l : List Cv) (box nodes : Int) (k : Nat) (w : World) (h : Cs w A c l) (hb : -9223372036854775808 ≤ box ∧ box ≤ 9223372036854775807) (hk : k ≤ 255) :
  Calls Tryz.prog 9 #[.slice A l.length c, .agg #[.int .i64 box, .int .i64 nodes], .int .u8 k] w fun e w' => e = .returned (.bool true) ∧ Below w.heap.size w w' := by
 cases hm : mayB l 30 with
 | false => exact pmore_no A c _ l box nodes k w h rfl hb hk (by rw [hm]; rfl)
 | true =>
  cases hf : fineB box nodes with
  | false => exact pmore_f1 A c _ l box nodes k w h rfl hb hk hm hf
  | true =>
   cases hg : fineB (IntKind.i64.wrap (box + (k : Int))) nodes with
   | false => exact pmore_f2 A c _ l box nodes k w h rfl hb hk hm hf hg
   | true => exact pmore_main A c _ l box nodes k w h rfl hb hk hm hf hg
end Go.Proofs.YtajgfmfopkggdaaGreat
