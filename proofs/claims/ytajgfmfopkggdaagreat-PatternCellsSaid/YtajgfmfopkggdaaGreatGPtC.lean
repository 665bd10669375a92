/-
  pattern: PatternCells, the walk.
-/
import Derived.Test.YtajgfmfopkggdaaGreatGPtW

set_option linter.unusedVariables false
set_option linter.unusedSimpArgs false
set_option maxRecDepth 100000
namespace Go.Proofs.YtajgfmfopkggdaaGreat
open Go.RowKit Num Nds Txt
theorem pq_len {l : List Cv} {n qn : Nat} {q : List Nd} (hn : l.length = n) (hm : mayB l 30 = true) (hq : QuadOf (lastF (l.map Cv.cl)) q) (e : q.length = qn) : qn ≤ 900000 := by
 have h1 := hq.lenF.2
 have h2 := lastF_le (l.map Cv.cl)
 rw [List.length_map] at h2
 have h3 := (may_R hm).1
 omega
structure Li (w W : World) (gl : Nat) (box nodes : Int) : Prop where
 b : Below w.heap.size w W
 lk : W.heap[gl]? = some (.cells #[.int .i64 box, .int .i64 nodes] 54)
theorem Li.next {w W W' : World} {gl : Nat} {box nodes : Int} (h : Li w W gl box nodes) (k : Below W.heap.size W W') : Li w W' gl box nodes :=
 ⟨h.b.trans (k.mono h.b.size), (k.block _ (heapLt h.lk)).trans h.lk⟩
theorem Li.start (w : World) (box nodes : Int) : Li w (w.alloc (.cells #[.int .i64 box, .int .i64 nodes] 54)) w.heap.size box nodes :=
 ⟨(Below.refl _ _).alloc (Nat.le_refl _) _, heap_alloc_new w _⟩
theorem Li.pat {w W : World} {gl : Nat} {box nodes : Int} (h : Li w W gl box nodes) {A : Option Addr} {c n : Nat} {q : List Nd} (hq : Ns W A c q) (s : ByteArray) :
  Pa w (W.alloc (.cells #[.string s, .slice A n c] 52)) A c n q s W.heap.size gl box nodes :=
 have hb := (Below.refl W.heap.size W).alloc (Nat.le_refl _) (.cells #[.string s, .slice A n c] 52)
 ⟨h.b.trans (hb.mono h.b.size), hq.below hb, heap_alloc_new W _, (hb.block _ (heapLt h.lk)).trans h.lk⟩
set_option maxHeartbeats 6400000 in
theorem pcells_long
  (A : Option Addr) (c n : Nat) (s : ByteArray) (l : List Cv) (box nodes : Int) (w : World) (hs : s.size ≤ maxLen) (h : Cs w A c l) (hn : l.length = n) (hb : -9223372036854775808 ≤ box ∧ box ≤ 9223372036854775807) (h1 : 100 < s.size) :
  Calls Tryz.prog 8 #[.string s, .slice A n c, .agg #[.int .i64 box, .int .i64 nodes]] w fun e w' => e = .returned (.bool true) ∧ Below w.heap.size w w' := by
 have hcap := h.cap
 rw [hn] at hcap
 have L0 := Lib.hid (Li.start w box nodes)
 have HC := Lib.hid h
 have HS := Lib.hid hs
 have HL := Lib.hid hn
 have q0 : True := trivial
 have t1 : decide ((s.size : Int) > 100) = true := decide_eq_true (by omega)
 clear h hn hs h1
 go_enter Tryz.func8, Tryz.ntmps8
 go_wp2_with (first
  | (have _t := q0; go_at_call 29; clear _t; go_loud (refine (alive11_any _).mono ?_; rintro e w1 ⟨rfl, b_⟩; have L1 := Lib.hid (L0.out.next b_); obtain ⟨l0, l1⟩ := lim_cells L1.out.lk; clear b_; have q1 := q0; clear q0)))
 go_ret
 exact ⟨rfl, L1.out.b⟩
set_option maxHeartbeats 6400000 in
theorem pcells_unfine
  (A : Option Addr) (c n : Nat) (s : ByteArray) (l : List Cv) (box nodes : Int) (w : World) (hs : s.size ≤ maxLen) (h : Cs w A c l) (hn : l.length = n) (hb : -9223372036854775808 ≤ box ∧ box ≤ 9223372036854775807) (h1 : s.size ≤ 100) (hf : fineB box nodes = false) :
  Calls Tryz.prog 8 #[.string s, .slice A n c, .agg #[.int .i64 box, .int .i64 nodes]] w fun e w' => e = .returned (.bool true) ∧ Below w.heap.size w w' := by
 have hcap := h.cap
 rw [hn] at hcap
 have L0 := Lib.hid (Li.start w box nodes)
 have HC := Lib.hid h
 have HS := Lib.hid hs
 have HL := Lib.hid hn
 have q0 : True := trivial
 have t1 : decide ((s.size : Int) > 100) = false := decide_eq_false (by omega)
 have HF := Lib.hid hf
 clear h hn hs h1 hf
 go_enter Tryz.func8, Tryz.ntmps8
 go_wp2_with (first
  | (have _t := q0; go_at_call 29; clear _t; go_loud (refine (alive11_any _).mono ?_; rintro e w1 ⟨rfl, b_⟩; have L1 := Lib.hid (L0.out.next b_); obtain ⟨l0, l1⟩ := lim_cells L1.out.lk; clear b_; have q1 := q0; clear q0))
  | (have _t := q1; go_at_call 33; clear _t; go_loud (refine (rfine_any box nodes _).mono ?_; rintro e w2 ⟨rfl, b_⟩; rw [HF.out]; have L1 := Lib.hid (L1.out.next b_); clear l0 l1 b_; obtain ⟨l0, l1⟩ := lim_cells L1.out.lk; have q2 := q1; clear q1)))
 go_ret
 exact ⟨rfl, L1.out.b⟩
set_option maxHeartbeats 6400000 in
theorem pcells_no
  (A : Option Addr) (c n : Nat) (s : ByteArray) (l : List Cv) (box nodes : Int) (w : World) (hs : s.size ≤ maxLen) (h : Cs w A c l) (hn : l.length = n) (hb : -9223372036854775808 ≤ box ∧ box ≤ 9223372036854775807) (h1 : s.size ≤ 100) (hf : fineB box nodes = true) (hr : (mayB l 30 && ruleB s.data.toList) = false) :
  Calls Tryz.prog 8 #[.string s, .slice A n c, .agg #[.int .i64 box, .int .i64 nodes]] w fun e w' => e = .returned (.bool true) ∧ Below w.heap.size w w' := by
 have hcap := h.cap
 rw [hn] at hcap
 have L0 := Lib.hid (Li.start w box nodes)
 have HC := Lib.hid h
 have HS := Lib.hid hs
 have HL := Lib.hid hn
 have q0 : True := trivial
 have t1 : decide ((s.size : Int) > 100) = false := decide_eq_false (by omega)
 have HF := Lib.hid hf
 have HR := Lib.hid hr
 clear h hn hs h1 hf hr
 go_enter Tryz.func8, Tryz.ntmps8
 go_wp2_with (first
  | (have _t := q0; go_at_call 29; clear _t; go_loud (refine (alive11_any _).mono ?_; rintro e w1 ⟨rfl, b_⟩; have L1 := Lib.hid (L0.out.next b_); obtain ⟨l0, l1⟩ := lim_cells L1.out.lk; clear b_; have q1 := q0; clear q0))
  | (have _t := q1; go_at_call 33; clear _t; go_loud (refine (rfine_any box nodes _).mono ?_; rintro e w2 ⟨rfl, b_⟩; rw [HF.out]; have L1 := Lib.hid (L1.out.next b_); clear l0 l1 b_; obtain ⟨l0, l1⟩ := lim_cells L1.out.lk; have q2 := q1; clear q1))
  | (have _t := q2; go_at_call 40; clear _t; go_loud (refine (rpof_any A c n 30 s l _ HS.out (HC.out.below L1.out.b) HL.out (by omega)).mono ?_; rintro e w3 ⟨A5, c5, qn, q, ok, rfl, l5, n5, a5, b_, hok, -, -⟩; rw [hok, HR.out]; have hc5 := n5.cap; rw [l5] at hc5; have L1 := Lib.hid (L1.out.next b_); have B3 := Lib.hid (L1.out.b.alloc L1.out.b.size (.cells #[.string s, .slice A5 qn c5] 52)); clear l0 l1 b_ n5 a5 l5 hok; have q3 := q2; clear q2)))
 go_ret
 exact ⟨rfl, B3.out⟩
set_option maxHeartbeats 6400000 in
theorem pcells_main
  (A : Option Addr) (c n : Nat) (s : ByteArray) (l : List Cv) (box nodes : Int) (w : World) (hs : s.size ≤ maxLen) (h : Cs w A c l) (hn : l.length = n) (hb : -9223372036854775808 ≤ box ∧ box ≤ 9223372036854775807) (h1 : s.size ≤ 100) (hf : fineB box nodes = true) (hmy : mayB l 30 = true) (hru : ruleB s.data.toList = true) :
  Calls Tryz.prog 8 #[.string s, .slice A n c, .agg #[.int .i64 box, .int .i64 nodes]] w fun e w' => e = .returned (.bool true) ∧ Below w.heap.size w w' := by
 have hcap := h.cap
 rw [hn] at hcap
 have L0 := Lib.hid (Li.start w box nodes)
 have HC := Lib.hid h
 have HS := Lib.hid hs
 have HL := Lib.hid hn
 have q0 : True := trivial
 have t1 : decide ((s.size : Int) > 100) = false := decide_eq_false (by omega)
 have HF := Lib.hid hf
 have HMY := Lib.hid hmy
 have HRU := Lib.hid hru
 have HR := Lib.hid (show (mayB l 30 && ruleB s.data.toList) = true by rw [hmy, hru]; rfl)
 clear h hn hs h1 hf hmy hru
 go_enter Tryz.func8, Tryz.ntmps8
 go_wp2_with (first
  | (have _t := q0; go_at_call 29; clear _t; go_loud (refine (alive11_any _).mono ?_; rintro e w1 ⟨rfl, b_⟩; have L1 := Lib.hid (L0.out.next b_); obtain ⟨l0, l1⟩ := lim_cells L1.out.lk; clear b_; have q1 := q0; clear q0))
  | (have _t := q1; go_at_call 33; clear _t; go_loud (refine (rfine_any box nodes _).mono ?_; rintro e w2 ⟨rfl, b_⟩; rw [HF.out]; have L1 := Lib.hid (L1.out.next b_); clear l0 l1 b_; obtain ⟨l0, l1⟩ := lim_cells L1.out.lk; have q2 := q1; clear q1))
  | (have _t := q2; go_at_call 40; clear _t; go_loud (refine (rpof_any A c n 30 s l _ HS.out (HC.out.below L1.out.b) HL.out (by omega)).mono ?_; rintro e w3 ⟨A5, c5, qn, q, ok, rfl, l5, n5, a5, b_, hok, -, hqo⟩; rw [hok, HR.out]; have HQ := Lib.hid (hqo (hok.trans HMY.out)); have hc5 := n5.cap; rw [l5] at hc5; have H5 := Lib.hid l5; have L1 := Lib.hid (L1.out.next b_); have PP := Lib.hid (L1.out.pat (n := qn) n5 s); clear l0 l1 b_ n5 a5 l5 hok hqo; obtain ⟨gp, hgp⟩ : ∃ g, g = w3.heap.size := ⟨_, rfl⟩; obtain ⟨W0, hW0⟩ : ∃ Z : World, Z = w3.alloc (.cells #[.string s, .slice A5 qn c5] 52) := ⟨_, rfl⟩; rw [← hgp, ← hW0] at PP; have q3 := q2; clear q2)))
 have HQN := Lib.hid (pq_len HL.out HMY.out HQ.out H5.out)
 rw [← hgp, ← hW0]
 clear hgp hW0 q3
 go_loopw [9] (fun z wr => ∃ f : Int, z = .int .i64 f ∧ 1 ≤ f ∧ f ≤ 6 ∧ Pa w wr A5 c5 qn q s gp w.heap.size box nodes) (fun z _ => (6 - intOf z).toNat)
 case atStart => exact ⟨1, rfl, by omega, by omega, PP.out⟩
 case round =>
  obtain ⟨f, rfl, f0, f8, hp⟩ := hrel
  clear PP
  by_cases hlt : f ≤ 5
  ·
   have t8 : decide (f ≤ 5) = true := decide_eq_true hlt
   obtain ⟨K, hK⟩ := ck_det f s q qn box nodes
   have HK := Lib.hid hK
   obtain ⟨E, -, hE⟩ := ex_det f q qn box
   have HE := Lib.hid hE
   have u4 : (E != E) = false := bne_self_eq_false E
   have u5 : (K != K) = false := bne_self_eq_false K
   have fw : IntKind.i64.wrap (f + 1) = f + 1 := IntWalk.i64_in _ (by omega)
   have F5 := Lib.hid (show 1 ≤ f ∧ f ≤ 5 from ⟨f0, hlt⟩)
   have p0 := hp.next (Below.drew' (Below.refl _ wr))
   clear hp hE hK f0 f8 hlt
   go_wp2_with fail
   go_region_held3 (fun w' => w'.cell? ⟨gp, 0, none⟩ = some (.string s) ∧ w'.cell? ⟨gp, 1, none⟩ = some (.slice A5 qn c5) ∧ w'.cell? ⟨w.heap.size, 0, none⟩ = some (.int .i64 box) ∧ w'.cell? ⟨w.heap.size, 1, none⟩ = some (.int .i64 nodes))
    (exact Pa.cells (by assumption))
    (first
    | (have _t := p0; go_at_call 41; clear _t; go_loud (refine (pexpress_any A5 c5 qn s q f box nodes _ p0.ns H5.out HQN.out HQ.out.good F5.out hb).mono ?_; rintro e w4 ⟨b, rfl, hk, -, b_⟩; rw [HE.out b hk]; clear hk; have p1 := p0.next b_; clear p0 b_))
    | (have _t := p1; go_at_call 42; clear _t; go_loud (refine (rexpress_any A5 c5 qn s q f box nodes _ p1.ns H5.out HQN.out HQ.out.good F5.out hb).mono ?_; rintro e w5 ⟨b, rfl, hk, -, b_⟩; rw [HE.out b hk]; clear hk; have p2 := p1.next b_; clear p1 b_))
    | (have _t := p2; go_at_call 38; clear _t; go_loud (refine (pcheck_any A5 c5 qn s q f box nodes _ HS.out p2.ns H5.out HQN.out hb).mono ?_; rintro e w6 ⟨er, rfl, hk, b_⟩; rw [HK.out er hk]; clear hk; have p3 := p2.next b_; clear p2 b_))
    | (have _t := p3; go_at_call 39; clear _t; go_loud (refine (rpcheck_any A5 c5 qn s q f box nodes _ HS.out p3.ns H5.out HQN.out hb).mono ?_; rintro e w7 ⟨er, rfl, hk, b_⟩; rw [HK.out er hk]; clear hk; have p4 := p3.next b_; clear p3 b_)))
   have P4 := Lib.hid p4
   clear p4
   go_wp2_with fail
   go_roundw
   case rel => exact ⟨f + 1, by have := F5.out; go_num, by have := F5.out; omega, by have := F5.out; omega, P4.out⟩
   case measure => have := F5.out; simp [intOf]; omega
  ·
   have t8 : decide (f ≤ 5) = false := decide_eq_false hlt
   have HP := Lib.hid hp
   obtain ⟨c0, c1, c2, c3⟩ := hp.cells
   clear hp hlt f0 f8
   go_wp2_with (go_at_call 30; go_loud (refine (pright_any A5 c5 qn s q _ HS.out HP.out.ns H5.out (by have := HQN.out; omega)).mono ?_; rintro e w8 ⟨rfl, b_⟩; rw [show mayP s q = true by (unfold mayP; rw [HRU.out, HQ.out.quad]; rfl)]; have HP := Lib.hid (HP.out.next b_); clear b_))
   go_ret
   exact ⟨rfl, HP.out.b⟩
theorem pcells_law (A : Option Addr) (c : Nat) (s : ByteArray) (l : List Cv) (box nodes : Int) (w : World) (hs : s.size ≤ maxLen) (h : Cs w A c l) (hb : -9223372036854775808 ≤ box ∧ box ≤ 9223372036854775807) :
  Calls Tryz.prog 8 #[.string s, .slice A l.length c, .agg #[.int .i64 box, .int .i64 nodes]] w fun e w' => e = .returned (.bool true) ∧ Below w.heap.size w w' := by
 by_cases h1 : s.size ≤ 100
 ·
  cases hf : fineB box nodes with
  | false => exact pcells_unfine A c _ s l box nodes w hs h rfl hb h1 hf
  | true =>
   cases hr : (mayB l 30 && ruleB s.data.toList) with
   | false => exact pcells_no A c _ s l box nodes w hs h rfl hb h1 hf hr
   | true =>
    rw [Bool.and_eq_true] at hr
    exact pcells_main A c _ s l box nodes w hs h rfl hb h1 hf hr.1 hr.2
 ·
  exact pcells_long A c _ s l box nodes w hs h rfl hb (by omega)
end Go.Proofs.YtajgfmfopkggdaaGreat
