/-
  pattern: PatternRules, the walk.
-/
import Derived.Test.YtajgfmfopkggdaaGreatGPtC

set_option linter.unusedVariables false
set_option linter.unusedSimpArgs false
set_option maxRecDepth 100000
namespace Go.Proofs.YtajgfmfopkggdaaGreat
open Go.RowKit Num Nds Txt
structure Pp (w W : World) (A : Option Addr) (c n : Nat) (q : List Nd) (s : ByteArray) (gp : Nat) : Prop where
 b : Below w.heap.size w W
 ns : Ns W A c q
 pk : W.heap[gp]? = some (.cells #[.string s, .slice A n c] 52)
theorem Pp.next {w W W' : World} {A : Option Addr} {c n : Nat} {q : List Nd} {s : ByteArray} {gp : Nat} (h : Pp w W A c n q s gp) (k : Below W.heap.size W W') : Pp w W' A c n q s gp :=
 ⟨h.b.trans (k.mono h.b.size), h.ns.below k, (k.block _ (heapLt h.pk)).trans h.pk⟩
theorem Pp.start {w W : World} (hb : Below w.heap.size w W) {A : Option Addr} {c n : Nat} {q : List Nd} (hq : Ns W A c q) (s : ByteArray) : Pp w (W.alloc (.cells #[.string s, .slice A n c] 52)) A c n q s W.heap.size :=
 have h1 := (Below.refl W.heap.size W).alloc (Nat.le_refl _) (.cells #[.string s, .slice A n c] 52)
 ⟨hb.trans (h1.mono hb.size), hq.below h1, heap_alloc_new W _⟩
theorem Pp.cells {w W : World} {A : Option Addr} {c n : Nat} {q : List Nd} {s : ByteArray} {gp : Nat} (h : Pp w W A c n q s gp) : W.cell? ⟨gp, 0, none⟩ = some (.string s) ∧ W.cell? ⟨gp, 1, none⟩ = some (.slice A n c) := pat_cells h.pk
theorem pr_quad {l : List Cv} {n qn : Nat} {q : List Nd} {ok : Bool} (hn : l.length = n) (hok : ok = mayB l 30) (hno : ok = false → q = []) (hqo : ok = true → QuadOf (lastF (l.map Cv.cl)) q) (e : q.length = qn) : quadB q = true ∧ qn ≤ 900000 := by
 cases ok with
 | false =>
  have h := hno rfl
  subst h
  exact ⟨rfl, by rw [← e]; exact Nat.zero_le _⟩
 | true => exact ⟨(hqo rfl).quad, pq_len hn hok.symm (hqo rfl) e⟩
def mayR (s : ByteArray) (k : Nat) : Bool := decide (1 ≤ s.size ∧ s.size ≤ 40) && (s.data.toList.take k).all sgn
theorem mayR_zero (s : ByteArray) : mayR s 0 = decide (1 ≤ s.size ∧ s.size ≤ 40) := by unfold mayR; simp
theorem mayR_succ {s : ByteArray} {k : Nat} (h : k < s.size) : mayR s (k + 1) = (mayR s k && sgn (s[k]'h)) := by
 unfold mayR
 rw [take_snoc (tx_get h), List.all_append]
 simp [Bool.and_assoc]
theorem mayR_all (s : ByteArray) : mayR s s.size = ruleB s.data.toList := by
 unfold mayR ruleB
 rw [tx_len, List.take_of_length_le (by rw [tx_len]; exact Nat.le_refl _)]
set_option maxHeartbeats 6400000 in
theorem rwide_any (w : World) : Calls Tryz.prog 43 #[] w fun e w' => e = .returned (.agg #[.int .i64 1000, .int .i64 100000]) ∧ Below w.heap.size w w' := by
 have HB := Lib.hid ((Below.refl w.heap.size w).alloc (Nat.le_refl _) (.cells #[.int .i64 1000, .int .i64 100000] 54))
 go_enter Tryz.func43, Tryz.ntmps43
 obtain ⟨e0, e1⟩ := lim_cells (heap_alloc_new w (.cells #[.int .i64 1000, .int .i64 100000] 54))
 go_wp2_with fail
 refine bodyPost_ret (v := .agg #[.int .i64 1000, .int .i64 100000]) (by simp [results, Tryz.results43, go_sem, e0, e1]) rfl ?_
 exact ⟨rfl, HB.out⟩
set_option maxHeartbeats 6400000 in
theorem prules_long
  (A : Option Addr) (c n : Nat) (s : ByteArray) (l : List Cv) (w : World) (hs : s.size ≤ maxLen) (h : Cs w A c l) (hn : l.length = n) (h1 : 100 < s.size) :
  Calls Tryz.prog 10 #[.string s, .slice A n c] w fun e w' => e = .returned (.bool true) ∧ Below w.heap.size w w' := by
 have hcap := h.cap
 rw [hn] at hcap
 have HC := Lib.hid h
 have HL := Lib.hid hn
 have HS := Lib.hid hs
 have q0 : True := trivial
 have t1 : decide ((s.size : Int) > 100) = true := decide_eq_true (by omega)
 clear h hn hs h1
 go_enter Tryz.func10, Tryz.ntmps10
 go_wp2_with (first
  | (have _t := q0; go_at_call 29; clear _t; go_loud (refine (alive11_any _).mono ?_; rintro e w1 ⟨rfl, b_⟩; have B1 := Lib.hid b_; clear b_; have q1 := q0; clear q0))
  | (have _t := q1; go_at_call 40; clear _t; go_loud (refine (rpof_any A c n 30 s l _ HS.out (HC.out.below B1.out) HL.out (by omega)).mono ?_; rintro e w3 ⟨A5, z5, qn, q, ok, rfl, l5, n5, a5, b_, hok, hno, hqo⟩; have HQ := Lib.hid (pr_quad HL.out hok hno hqo l5); have hc5 := n5.cap; rw [l5] at hc5; have H5 := Lib.hid l5; obtain ⟨ov, hov⟩ : ∃ ov, ov = (ok && ruleB s.data.toList) := ⟨_, rfl⟩; rw [← hov]; have PP := Lib.hid (Pp.start (n := qn) (B1.out.trans (b_.mono B1.out.size)) n5 s); clear b_ n5 a5 l5 hok hno hqo hov; obtain ⟨c0, c1⟩ := pat_cells PP.out.pk; have q2 := q1; clear q1)))
 go_ret
 exact ⟨rfl, PP.out.b⟩
set_option maxHeartbeats 6400000 in
theorem prules_main
  (A : Option Addr) (c n : Nat) (s : ByteArray) (l : List Cv) (w : World) (hs : s.size ≤ maxLen) (h : Cs w A c l) (hn : l.length = n) (h1 : s.size ≤ 100) :
  Calls Tryz.prog 10 #[.string s, .slice A n c] w fun e w' => e = .returned (.bool true) ∧ Below w.heap.size w w' := by
 have hcap := h.cap
 rw [hn] at hcap
 have HC := Lib.hid h
 have HL := Lib.hid hn
 have HS := Lib.hid hs
 have q0 : True := trivial
 have t1 : decide ((s.size : Int) > 100) = false := decide_eq_false (by omega)
 have HZ := Lib.hid h1
 obtain ⟨g0, g1, hg⟩ : ∃ g0 g1 : Bool, decide ((s.size : Int) ≥ 1) = g0 ∧ (g0 = true → decide ((s.size : Int) ≤ 40) = g1) ∧ mayR s 0 = (g0 && g1) := by
  rw [mayR_zero]
  by_cases a : 1 ≤ s.size
  ·
   by_cases b : s.size ≤ 40
   ·
    exact ⟨true, true, decide_eq_true (by omega), fun _ => decide_eq_true (by omega), decide_eq_true ⟨a, b⟩⟩
   ·
    exact ⟨true, false, decide_eq_true (by omega), fun _ => decide_eq_false (by omega), decide_eq_false (by omega)⟩
  ·
   exact ⟨false, false, decide_eq_false (by omega), fun h => by (cases h), decide_eq_false (by omega)⟩
 clear h hn hs h1
 go_enter Tryz.func10, Tryz.ntmps10
 go_upto_region 6 with (first
  | (have _t := q0; go_at_call 29; clear _t; go_loud (refine (alive11_any _).mono ?_; rintro e w1 ⟨rfl, b_⟩; have B1 := Lib.hid b_; clear b_; have q1 := q0; clear q0))
  | (have _t := q1; go_at_call 40; clear _t; go_loud (refine (rpof_any A c n 30 s l _ HS.out (HC.out.below B1.out) HL.out (by omega)).mono ?_; rintro e w3 ⟨A5, z5, qn, q, ok, rfl, l5, n5, a5, b_, hok, hno, hqo⟩; have HQ := Lib.hid (pr_quad HL.out hok hno hqo l5); have hc5 := n5.cap; rw [l5] at hc5; have H5 := Lib.hid l5; obtain ⟨ov, hov⟩ : ∃ ov, ov = (ok && ruleB s.data.toList) := ⟨_, rfl⟩; rw [← hov]; have PP := Lib.hid (Pp.start (n := qn) (B1.out.trans (b_.mono B1.out.size)) n5 s); clear b_ n5 a5 l5 hok hno hqo hov; obtain ⟨c0, c1⟩ := pat_cells PP.out.pk; have q2 := q1; clear q1)))
 have hbw := Below.refl (w3.alloc (.cells #[.string s, .slice A5 qn z5] 52)).heap.size (w3.alloc (.cells #[.string s, .slice A5 qn z5] 52))
 obtain ⟨W, hW⟩ : ∃ Z : World, Z = w3.alloc (.cells #[.string s, .slice A5 qn z5] 52) := ⟨_, rfl⟩
 rw [← hW] at PP c0 c1 ⊢
 clear hbw hW
 go_cut [7] (fun s7 wx => s7 = .bool (mayR s 0) ∧ wx = W)
 case first =>
  cases g0 with
  | false =>
   obtain ⟨x1, -, x3⟩ := hg
   go_wp2_with fail
   go_meet
   exact ⟨by rw [x3]; rfl, rfl⟩
  | true =>
   obtain ⟨x1, x2, x3⟩ := hg
   have x4 := x2 rfl
   clear x2
   go_wp2_with fail
   go_meet
   exact ⟨by rw [x3]; cases g1 <;> rfl, rfl⟩
 case rest =>
 obtain ⟨rfl, rfl⟩ := hcut
 clear hg
 go_wp2_with fail
 go_loopw [7, 8] (fun z y wr => ∃ k : Nat, z = .bool (mayR s k) ∧ y = .int .i64 (k : Int) ∧ k ≤ s.size ∧ Pp w wr A5 z5 qn q s w3.heap.size) (fun _ y _ => s.size - (intOf y).toNat)
 case atStart => exact ⟨0, rfl, rfl, Nat.zero_le _, PP.out⟩
 case round =>
  obtain ⟨k, rfl, rfl, hk, hp⟩ := hrel
  clear PP c0 c1
  have HP := Lib.hid hp
  clear hp
  by_cases hlt : k < s.size
  ·
   have HR1 := Lib.hid (mayR_succ hlt)
   have kw : IntKind.i64.wrap ((k : Int) + 1) = (k : Int) + 1 := IntWalk.i64_in _ (by have := HZ.out; omega)
   have HSG := Lib.hid (sgn_int (s[k]'hlt))
   cases hm : mayR s k with
   | false =>
    have HM := Lib.hid hm
    have i1 : (k : Int) < (s.size : Int) := by omega
    clear hm
    go_wp2_with fail
    go_roundw
    case rel => exact ⟨k + 1, by rw [HR1.out, HM.out]; rfl, by go_num, by omega, HP.out⟩
    case measure => simp [intOf]; omega
   | true =>
    have HM := Lib.hid hm
    clear hm
    by_cases ha : 32 < (s[k]'hlt).toNat
    ·
     have a1 : decide (((s[k]'hlt).toNat : Int) > 32) = true := decide_eq_true (by omega)
     by_cases hb : (s[k]'hlt).toNat < 127
     ·
      have a2 : decide (((s[k]'hlt).toNat : Int) < 127) = true := decide_eq_true (by omega)
      have HV := Lib.hid (show sgn (s[k]'hlt) = true by rw [HSG.out]; exact decide_eq_true (by omega))
      go_wp2_with fail
      go_roundw
      case rel => exact ⟨k + 1, by rw [HR1.out, HM.out, HV.out]; rfl, by go_num, by omega, HP.out⟩
      case measure => simp [intOf]; omega
     ·
      have a2 : decide (((s[k]'hlt).toNat : Int) < 127) = false := decide_eq_false (by omega)
      have HV := Lib.hid (show sgn (s[k]'hlt) = false by rw [HSG.out]; exact decide_eq_false (by omega))
      go_wp2_with fail
      go_roundw
      case rel => exact ⟨k + 1, by rw [HR1.out, HM.out, HV.out]; rfl, by go_num, by omega, HP.out⟩
      case measure => simp [intOf]; omega
    ·
     have a1 : decide (((s[k]'hlt).toNat : Int) > 32) = false := decide_eq_false (by omega)
     have HV := Lib.hid (show sgn (s[k]'hlt) = false by rw [HSG.out]; exact decide_eq_false (by omega))
     go_wp2_with fail
     go_roundw
     case rel => exact ⟨k + 1, by rw [HR1.out, HM.out, HV.out]; rfl, by go_num, by omega, HP.out⟩
     case measure => simp [intOf]; omega
  ·
   have e : k = s.size := by omega
   subst e
   rw [mayR_all]
   obtain ⟨M, hM⟩ : ∃ M, M = ruleB s.data.toList := ⟨_, rfl⟩
   rw [← hM]
   have HM := Lib.hid hM
   have HMP := Lib.hid (show mayP s q = M by unfold mayP; rw [← hM, HQ.out.1]; cases M <;> rfl)
   clear hM hk hlt
   go_wp2_with fail
   go_loopw [9, 10] (fun z y wr => ∃ (f : Int) (v : Value), z = .int .i64 f ∧ y = v ∧ 1 ≤ f ∧ f ≤ 6 ∧ Pp w wr A5 z5 qn q s w3.heap.size) (fun z _ _ => (6 - intOf z).toNat)
   case atStart => exact ⟨1, _, rfl, rfl, by omega, by omega, HP.out⟩
   case round =>
    obtain ⟨f, v, rfl, rfl, f0, f8, hp⟩ := hrel
    clear HP
    by_cases hlt : f ≤ 5
    ·
     have t8 : decide (f ≤ 5) = true := decide_eq_true hlt
     have fw : IntKind.i64.wrap (f + 1) = f + 1 := IntWalk.i64_in _ (by omega)
     have F5 := Lib.hid (show 1 ≤ f ∧ f ≤ 5 from ⟨f0, hlt⟩)
     have p0 := hp.next (Below.drew' (Below.refl _ wr))
     clear hp f0 f8 hlt
     go_wp2_with fail
     go_region_held3 (fun w' => w'.cell? ⟨w3.heap.size, 0, none⟩ = some (.string s) ∧ w'.cell? ⟨w3.heap.size, 1, none⟩ = some (.slice A5 qn z5))
      (exact Pp.cells (by assumption))
      (first
      | (have _t := p0; go_at_call 43; clear _t; go_loud (refine (rwide_any _).mono ?_; rintro e w4 ⟨rfl, b_⟩; have p1 := p0.next b_; clear p0 b_))
      | (have _t := p1; go_at_call 38; clear _t; go_loud (refine (pcheck_any A5 z5 qn s q f 1000 100000 _ HS.out p1.ns H5.out HQ.out.2 (by omega)).mono ?_; rintro e w5 ⟨er, rfl, hk, b_⟩; have HK := Lib.hid hk; have p2 := p1.next b_; clear p1 b_ hk))
      )
     have P2 := Lib.hid p2
     have HC2 := Lib.hid (show (fmtB f && (mayP s q && fineB 1000 100000)) = M by
      rw [HMP.out, show fmtB f = true from decide_eq_true F5.out, show fineB 1000 100000 = true from rfl]
      cases M <;> rfl)
     clear p2
     cases hm : M with
     | false =>
      subst hm
      obtain rfl : er = 1 := HK.out.1 HC2.out
      go_wp2_with fail
      go_roundw
      case rel => exact ⟨f + 1, _, by have := F5.out; go_num, rfl, by have := F5.out; omega, by have := F5.out; omega, P2.out⟩
      case measure => have := F5.out; simp [intOf]; omega
     | true =>
      subst hm
      have y1 : (er == 1) = false := beq_eq_false_iff_ne.2 (by rcases HK.out.2 HC2.out with ⟨h, -⟩ | ⟨h, -⟩ <;> omega)
      go_wp2_with fail
      go_roundw
      case rel => exact ⟨f + 1, _, by have := F5.out; go_num, rfl, by have := F5.out; omega, by have := F5.out; omega, P2.out⟩
      case measure => have := F5.out; simp [intOf]; omega
    ·
     have t8 : decide (f ≤ 5) = false := decide_eq_false hlt
     have HP := Lib.hid hp
     obtain ⟨c0, c1⟩ := pat_cells hp.pk
     have y1 : (M == M) = true := beq_self_eq_true M
     clear hp hlt f0 f8
     go_wp2_with (go_at_call 30; go_loud (refine (pright_any A5 z5 qn s q _ HS.out HP.out.ns H5.out (by have := HQ.out.2; omega)).mono ?_; rintro e w8 ⟨rfl, b_⟩; rw [HMP.out]; have HP := Lib.hid (HP.out.next b_); clear b_))
     go_ret
     exact ⟨rfl, HP.out.b⟩
theorem prules_law (A : Option Addr) (c : Nat) (s : ByteArray) (l : List Cv) (w : World) (hs : s.size ≤ maxLen) (h : Cs w A c l) :
  Calls Tryz.prog 10 #[.string s, .slice A l.length c] w fun e w' => e = .returned (.bool true) ∧ Below w.heap.size w w' := by
 by_cases h1 : s.size ≤ 100
 ·
  exact prules_main A c _ s l w hs h rfl h1
 ·
  exact prules_long A c _ s l w hs h rfl (by omega)
end Go.Proofs.YtajgfmfopkggdaaGreat
