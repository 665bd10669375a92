/-
  canon: alive.
-/
import Derived.Test.YtbcolelgbbmjkaaNcGr

namespace Go.Proofs.Ytbcolelgbbmjkaa
set_option linter.unusedVariables false
set_option linter.unusedSimpArgs false
open Go.RowKit Nds
theorem pof_at (A : Option Addr) (c n : Nat) (l : List Nd) (k : Int) (q : List Nd) (qn : Nat) (er : Int) (w : World) (h : Ns w A c l) (hn : l.length = n) (hn9 : n ≤ 900000) (hA : A = none → c = 0) (hq : ofQ l k = q) (hqn : q.length = qn) (he : ofE l k = er) :
    Calls Try.prog 6 #[.slice A n c, .int .i64 k] w fun e w' => ∃ A' c', e = .returned (.tuple #[.agg #[.slice A' qn c'], .int .i64 er]) ∧ Ns w' A' c' q ∧ (A' = none → c' = 0) ∧ Below w.heap.size w w' :=
  (pof_any A c n l k w h hn hn9 hA).mono fun e w' ⟨A', c', h1, h2, h3, h4⟩ => ⟨A', c', by rw [← hqn, ← hq, ← he]; exact h1, by rw [← hq]; exact h2, h3, h4⟩
/-- Slices that stand, and boxes of quads. -/
structure Al (w W : World) (L : List (Option Addr × Nat × List Nd)) (M : List (Nat × Value)) : Prop where
  sn : Sn w W L
  bx : ∀ t ∈ M, W.heap[t.1]? = some (.cells #[t.2] 25)
theorem Al.start (w : World) : Al w w [] [] := ⟨Sn.start w, by simp⟩
theorem Al.step {w W W' : World} {L : List (Option Addr × Nat × List Nd)} {M : List (Nat × Value)} (s : Al w W L M) (b : Below W.heap.size W W') : Al w W' L M :=
  ⟨s.sn.step b, fun t ht => (b.block t.1 (box_lt (s.bx t ht))).trans (s.bx t ht)⟩
theorem Al.alloc {w W : World} {L : List (Option Addr × Nat × List Nd)} {M : List (Nat × Value)} (s : Al w W L M) (o : Obj) : Al w (W.alloc o) L M := s.step ((Below.refl _ W).alloc (Nat.le_refl _) o)
theorem Al.addN {w W : World} {L : List (Option Addr × Nat × List Nd)} {M : List (Nat × Value)} (s : Al w W L M) {A : Option Addr} {c : Nat} {l : List Nd} (h : Ns W A c l) : Al w W ((A, c, l) :: L) M := ⟨s.sn.add h, s.bx⟩
theorem Al.addB {w W : World} {L : List (Option Addr × Nat × List Nd)} {M : List (Nat × Value)} (s : Al w W L M) (v : Value) : Al w (W.alloc (.cells #[v] 25)) L ((W.heap.size, v) :: M) :=
  ⟨(s.alloc _).sn, fun t ht => by
    rcases List.mem_cons.1 ht with rfl | ht
    · exact heap_alloc_new W _
    · exact (s.alloc _).bx t ht⟩
theorem Al.getN {w W : World} {L : List (Option Addr × Nat × List Nd)} {M : List (Nat × Value)} (s : Al w W L M) {A : Option Addr} {c : Nat} {l : List Nd} (h : (A, c, l) ∈ L) : Ns W A c l := s.sn.get h
theorem Al.getB {w W : World} {L : List (Option Addr × Nat × List Nd)} {M : List (Nat × Value)} (s : Al w W L M) {g : Nat} {v : Value} (h : (g, v) ∈ M) : W.cell? ⟨g, 0, none⟩ = some v := box_cell (s.bx _ h)
theorem al_one {w : World} {a : Addr} {n : Int} (h : w.cell? a = some (.int .i64 n)) (e : n = 1) : w.cell? a = some (.int .i64 1) := by rw [← e]; exact h
def lit6 : List Nd := [⟨1, 0, 0, 0, 1⟩, ⟨1, 0, 0, 0, 0⟩, ⟨2, 2, 0, 0, 1⟩, ⟨2, 1, 2, 0, 0⟩]
def near6 : List Nd := [⟨1, 1, 0, 0, 0⟩]
def two6 : List Nd := [⟨1, 0, 0, 0, 1⟩, ⟨2, 0, 0, 0, 1⟩]
theorem v_q4 : ofQ lit6 4 = near6 := by kernel_rfl
theorem v_e4 : ofE lit6 4 = 0 := by kernel_rfl
theorem v_q3 : ofQ lit6 3 = two6 := by kernel_rfl
theorem v_e3 : ofE lit6 3 = 0 := by kernel_rfl
theorem v_q5 : ofQ lit6 5 = [] := by kernel_rfl
theorem v_e5 : ofE lit6 5 = 1 := by kernel_rfl
theorem v_q2 : ofQ lit6 2 = [] := by kernel_rfl
theorem v_e2 : ofE lit6 2 = 0 := by kernel_rfl
theorem v_gq : ofQ grown6 5 = one5 := by kernel_rfl
theorem v_ge : ofE grown6 5 = 0 := by kernel_rfl
theorem v_gl : looseB grown6 = true := by kernel_rfl
theorem v_gs : shrT (den grown6 5) = .n 1 .e .e .e (.s 1) := by kernel_rfl
theorem shr_lv {cur : List Nd} {j : Nat} (hl : looseB cur = true) (hj : j ≤ cur.length) (h : den cur j = .n 1 .e .e .e (.s 1)) : ∃ r, j = r + 1 ∧ r < cur.length ∧ (at_ cur r).lv = 1 := by
  cases j with
  | zero => rw [den_zero] at h; cases h
  | succ r =>
    refine ⟨r, rfl, by omega, ?_⟩
    rw [den_loose hl (by omega)] at h
    have := norm_lv (ts := dens cur) (x := at_ cur r) (by rw [h]; simp)
    rw [h] at this
    exact this.symm
theorem ns_lit4 (W : World) (g : Nat) (hg : W.heap.size = g) : Ns (W.alloc (.cells #[.int .i64 1, .int .i64 0, .int .i64 0, .int .i64 0, .int .i64 1, .int .i64 1, .int .i64 0, .int .i64 0, .int .i64 0, .int .i64 0, .int .i64 2, .int .i64 2, .int .i64 0, .int .i64 0, .int .i64 1, .int .i64 2, .int .i64 1, .int .i64 2, .int .i64 0, .int .i64 0] 38)) (some ⟨g, 0, none⟩) 4 lit6 := by
  subst hg
  refine ⟨?_, Nat.le_refl 4, by simp [maxLen], fun _ => ⟨_, 0, rfl, by simp, fun i hi => ?_⟩⟩
  · intro x hx
    simp only [lit6, List.mem_cons, List.not_mem_nil, or_false] at hx
    rcases hx with rfl | rfl | rfl | rfl <;> (refine ⟨⟨?_, ?_⟩, ⟨?_, ?_⟩, ⟨?_, ?_⟩, ⟨?_, ?_⟩, ⟨?_, ?_⟩⟩ <;> simp)
  · have hi4 : i < 4 := hi
    have hh := heap_alloc_new W (.cells #[.int .i64 1, .int .i64 0, .int .i64 0, .int .i64 0, .int .i64 1, .int .i64 1, .int .i64 0, .int .i64 0, .int .i64 0, .int .i64 0, .int .i64 2, .int .i64 2, .int .i64 0, .int .i64 0, .int .i64 1, .int .i64 2, .int .i64 1, .int .i64 2, .int .i64 0, .int .i64 0] 38)
    match i, hi4 with
    | 0, _ => refine ⟨?_, ?_, ?_, ?_, ?_⟩ <;> (rw [cell_of_row _ _ _ _ _ _ hh]; rfl)
    | 1, _ => refine ⟨?_, ?_, ?_, ?_, ?_⟩ <;> (rw [cell_of_row _ _ _ _ _ _ hh]; rfl)
    | 2, _ => refine ⟨?_, ?_, ?_, ?_, ?_⟩ <;> (rw [cell_of_row _ _ _ _ _ _ hh]; rfl)
    | 3, _ => refine ⟨?_, ?_, ?_, ?_, ?_⟩ <;> (rw [cell_of_row _ _ _ _ _ _ hh]; rfl)
set_option maxRecDepth 100000 in
set_option maxHeartbeats 6400000 in
theorem alive6_any (w : World) : Calls Try.prog 5 #[] w fun e w' => e = .returned (.bool true) ∧ Below w.heap.size w w' := by
  have h1 := ((Al.start w).alloc (.cells #[.int .i64 1, .int .i64 0, .int .i64 0, .int .i64 0, .int .i64 1, .int .i64 1, .int .i64 0, .int .i64 0, .int .i64 0, .int .i64 0, .int .i64 2, .int .i64 2, .int .i64 0, .int .i64 0, .int .i64 1, .int .i64 2, .int .i64 1, .int .i64 2, .int .i64 0, .int .i64 0] 38)).addN (ns_lit4 w w.heap.size rfl)
  have h2 := (h1.alloc _).addN (ns_lit1 _ (w.heap.size + 1) ⟨1, 0, 0, 0, 1⟩ (by refine ⟨⟨?_, ?_⟩, ⟨?_, ?_⟩, ⟨?_, ?_⟩, ⟨?_, ?_⟩, ⟨?_, ?_⟩⟩ <;> simp) (by simp))
  have h3 := h2.addB (.slice (some ⟨w.heap.size + 1, 0, none⟩) 1 1)
  rw [show ((w.alloc (.cells #[.int .i64 1, .int .i64 0, .int .i64 0, .int .i64 0, .int .i64 1, .int .i64 1, .int .i64 0, .int .i64 0, .int .i64 0, .int .i64 0, .int .i64 2, .int .i64 2, .int .i64 0, .int .i64 0, .int .i64 1, .int .i64 2, .int .i64 1, .int .i64 2, .int .i64 0, .int .i64 0] 38)).alloc (.cells #[.int .i64 1, .int .i64 0, .int .i64 0, .int .i64 0, .int .i64 1] 38)).heap.size = w.heap.size + 1 + 1 by simp] at h3
  have HS := Lib.hid h3
  have q0 : True := trivial
  clear h1 h2 h3
  go_enter Try.func5, Try.ntmps5
  go_wp2_with (first
    | (have _t := q0; go_at_call 6; clear _t; go_loud (refine (pof_at _ _ 4 lit6 4 near6 1 0 _ (HS.out.getN (A := some ⟨w.heap.size, 0, none⟩) (c := 4) (by simp)) rfl (by omega) (fun e => by cases e) v_q4 rfl v_e4).mono ?_; rintro e w1 ⟨A1, c1, rfl, n1, -, b1⟩; have HS := Lib.hid (((HS.out.step b1).addN n1).addB (.slice A1 1 c1)); clear n1 b1; have q1 := q0; clear q0))
    | (have _t := q1; go_at_call 6; clear _t; go_loud (refine (pof_at _ _ 4 lit6 3 two6 2 0 _ (HS.out.getN (A := some ⟨w.heap.size, 0, none⟩) (c := 4) (by simp)) rfl (by omega) (fun e => by cases e) v_q3 rfl v_e3).mono ?_; rintro e w2 ⟨A2, c2, rfl, n2, -, b2⟩; have HS := Lib.hid (((HS.out.step b2).addN n2).addB (.slice A2 2 c2)); clear n2 b2; have q2 := q1; clear q1))
    | (have _t := q2; go_at_call 6; clear _t; go_loud (refine (pof_at _ _ 4 lit6 5 [] 0 1 _ (HS.out.getN (A := some ⟨w.heap.size, 0, none⟩) (c := 4) (by simp)) rfl (by omega) (fun e => by cases e) v_q5 rfl v_e5).mono ?_; rintro e w3 ⟨A3, c3, rfl, n3, -, b3⟩; have HS := Lib.hid (((HS.out.step b3).addN n3).addB (.slice A3 0 c3)); clear n3 b3; have q3 := q2; clear q2))
    | (have _t := q3; go_at_call 6; clear _t; go_loud (refine (pof_at _ _ 4 lit6 2 [] 0 0 _ (HS.out.getN (A := some ⟨w.heap.size, 0, none⟩) (c := 4) (by simp)) rfl (by omega) (fun e => by cases e) v_q2 rfl v_e2).mono ?_; rintro e w4 ⟨A4, c4, rfl, n4, -, b4⟩; have HS := Lib.hid (((HS.out.step b4).addN n4).addB (.slice A4 0 c4)); clear n4 b4; have k2 := HS.out.getB (g := w.heap.size + 1 + 1) (v := .slice (some ⟨w.heap.size + 1, 0, none⟩) 1 1) (by simp); have q4 := q3; clear q3))
    | (have _t := q4; go_at_call 13; clear _t; go_loud (refine (grow_one _ _ _ (show Ns _ (some ⟨w.heap.size + 1, 0, none⟩) 1 one5 from HS.out.getN (l := [⟨1, 0, 0, 0, 1⟩]) (by simp))).mono ?_; rintro e w5 ⟨Am, cm, rfl, nm, am, b5⟩; have HAM := Lib.hid am; have HS := Lib.hid ((HS.out.step b5).addN nm); clear nm am b5 k2; have q5 := q4; clear q4))
    | (have _t := q5; go_at_call 6; clear _t; go_loud (refine (pof_at _ _ 5 grown6 5 one5 1 0 _ (HS.out.getN (A := Am) (c := cm) (by simp)) rfl (by omega) HAM.out v_gq rfl v_ge).mono ?_; rintro e w6 ⟨A6, c6, rfl, n6, -, b6⟩; have HS := Lib.hid (((HS.out.step b6).addN n6).addB (.slice A6 1 c6)); clear n6 b6; have q6 := q5; clear q5))
    | (have _t := q6; go_at_call 14; clear _t; go_loud (refine (pshrink_any _ _ 5 grown6 5 _ (HS.out.getN (A := Am) (c := cm) (by simp)) rfl v_gl (by omega) HAM.out (by omega)).mono ?_; rintro e w7 ⟨vs, cur, j, rfl, s1, s2, s3, s4, s5, s6⟩; obtain ⟨r, rfl, hr, hlv⟩ := shr_lv s2 s3 (s4.trans v_gs); obtain ⟨As, cs, hvs, ns, -, -⟩ := s1.shape; have HS := Lib.hid ((HS.out.step s6).addN ns); obtain ⟨cn, hcn⟩ : ∃ cn, cn = cur.length := ⟨_, rfl⟩; rw [← hcn] at hvs hr; have hcb : cn ≤ 1400 := (by rw [hcn]; exact Nat.le_trans s5 (by decide)); subst hvs; have HCN := Lib.hid hcn; have HLV := Lib.hid hlv; have tj1 : decide ((r : Int) + 1 < 1) = false := decide_eq_false (by omega); have tj2 : decide ((cn : Int) < (r : Int) + 1) = false := decide_eq_false (by omega); have k3 := HS.out.getB (g := w1.heap.size) (v := .slice A1 1 c1) (by simp); clear s1 s2 s3 s4 s5 s6 ns hlv hcn; have q7 := q6; clear q6))
    | (have _t := q7; go_at_call 8; clear _t; go_loud (refine (rsame_any _ _ _ _ 1 1 near6 [⟨1, 1, 0, 0, 0⟩] _ ((HS.out.alloc _).getN (A := A1) (c := c1) (by simp)) (ns_lit1 w7 w7.heap.size ⟨1, 1, 0, 0, 0⟩ (by refine ⟨⟨?_, ?_⟩, ⟨?_, ?_⟩, ⟨?_, ?_⟩, ⟨?_, ?_⟩, ⟨?_, ?_⟩⟩ <;> simp) rfl) rfl rfl).mono ?_; rintro e w8 ⟨rfl, b8⟩; rw [show decide (near6 = [⟨1, 1, 0, 0, 0⟩]) = true from by kernel_rfl]; have HS := Lib.hid ((HS.out.alloc _).step b8); clear b8; have k5 := HS.out.getB (g := w2.heap.size) (v := .slice A2 2 c2) (by simp); have k9 := HS.out.getB (g := w4.heap.size) (v := .slice A4 0 c4) (by simp); have k13 := HS.out.getB (g := w6.heap.size) (v := .slice A6 1 c6) (by simp); have kk := HS.out.getB (g := w.heap.size + 1 + 1) (v := .slice (some ⟨w.heap.size + 1, 0, none⟩) 1 1) (by simp); obtain ⟨bm, om, hAm, -, hcm⟩ := (HS.out.getN (A := Am) (c := cm) (l := grown6) (by simp)).at_ (by decide); subst hAm; have km : w8.cell? ⟨bm, om + 20, none⟩ = some (.int .i64 3) := (hcm 4 (by decide)).1; clear hcm; have q8 := q7; clear q7))
    | (have _t := q8; go_at_call 8; clear _t; go_loud (refine (rsame_any _ _ _ _ 1 1 one5 [⟨1, 0, 0, 0, 1⟩] _ (HS.out.getN (A := A6) (c := c6) (by simp)) (HS.out.getN (A := some ⟨w.heap.size + 1, 0, none⟩) (c := 1) (by simp)) rfl rfl).mono ?_; rintro e w9 ⟨rfl, b9⟩; rw [show decide (one5 = [⟨1, 0, 0, 0, 1⟩]) = true from by kernel_rfl]; have HS := Lib.hid (HS.out.step b9); clear b9; obtain ⟨bs, os, hAs, -, hcs⟩ := (HS.out.getN (A := As) (c := cs) (l := cur) (by simp)).at_ (by rw [← HCN.out]; omega); subst hAs; have ks : w9.cell? ⟨bs, os + r * 5, none⟩ = some (.int .i64 1) := al_one (hcs r (by rw [← HCN.out]; exact hr)).1 HLV.out; have ir : (r : Int) < (cn : Int) := (by omega); clear hcs; have q9 := q8; clear q8)))
  go_ret
  exact ⟨rfl, HS.out.sn.1⟩
end Go.Proofs.Ytbcolelgbbmjkaa
