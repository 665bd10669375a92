/-
  canon: Of.
  canon: alive.
  canon: how long a quad is, plain.
  cells: the order in which one meets cells who goes through the quarters of a node; plain.
  a range over slices.Backward whose invariants may count draws; limb.trim and limb.Cmp, which draw no less.
  cells.byPlace: by rows, then by columns; it turns nothing and takes no draw back.
  cells.byQuarter, cells.quarter.
-/
import Derived.Test.YtlnmcilcifbcnaaGNcOr
import Derived.Test.YtlnmcilcifbcnaaGNcPB
import Derived.LoopN
import Derived.Test.YtlnmcilcifbcnaaGNcRS
import Derived.Test.YtlnmcilcifbcnaaGRound
import Derived.Test.YtlnmcilcifbcnaaGNdsW
import Derived.Test.YtlnmcilcifbcnaaGClM
import Derived.Test.YtlnmcilcifbcnaaGLen32
import Derived.Deep.RegionWith
import Derived.Deep.RegionHeld3

set_option linter.unusedVariables false
set_option linter.unusedSimpArgs false
set_option maxRecDepth 100000
namespace Go.Proofs.Ytlnmcilcifbcnaa
open Go.RowKit Nds
set_option maxHeartbeats 3200000 in
theorem pof_no (A : Option Addr) (c n : Nat) (l : List Nd) (k : Int) (w : World) (h : Ns w A c l) (hn : l.length = n) (hno : looseB l = false ∨ k < 0 ∨ (n : Int) < k) :
  Calls Try.prog 46 #[.slice A n c, .int .i64 k] w (RetO l k w) := by
 have hcap := h.cap
 rw [hn] at hcap
 have hR := ofQ_no (okB_no (by rw [hn]; exact hno))
 obtain ⟨R, hRR⟩ : ∃ R, R = RetO l k w := ⟨_, rfl⟩
 rw [← hRR]
 have HR := Lib.hid hRR
 have HQ := Lib.hid hR
 have hb := (Below.refl w.heap.size w).alloc (Nat.le_refl _) (.cells #[.slice none 0 0] 31)
 have HB := Lib.hid hb
 have HN := Lib.hid (h.below hb)
 have HL := Lib.hid hn
 have hgc : (w.alloc (.cells #[.slice none 0 0] 31)).heap[w.heap.size]? = some (.cells #[.slice none 0 0] 31) := heap_alloc_new w _
 have HGC := Lib.hid hgc
 have hcg0 := one_cell hgc
 have hlt : w.heap.size < (w.alloc (.cells #[.slice none 0 0] 31)).heap.size := by simp
 have HLT := Lib.hid hlt
 have hcases : k < 0 ∨ (0 ≤ k ∧ (n : Int) < k) ∨ (0 ≤ k ∧ k ≤ (n : Int) ∧ looseB l = false) := by
  by_cases h0 : k < 0
  ·
   exact .inl h0
  ·
   by_cases h1 : (n : Int) < k
   ·
    exact .inr (.inl ⟨by omega, h1⟩)
   ·
    rcases hno with h | h
    ·
     exact .inr (.inr ⟨by omega, by omega, h⟩)
    ·
     omega
 clear h hn hno hb hgc hlt hR hRR
 rcases hcases with h0 | ⟨h0, h1⟩ | ⟨h0, h1, hq⟩
 ·
  go_enter Try.func46, Try.ntmps46
  go_wp2_with fail
  generalize hF : World.alloc _ _ = F at *
  refine bodyPost_ret (v := .tuple #[.agg #[.slice none 0 0], .int .i64 1]) (by simp [results, Try.results46, go_sem, hcg0]) rfl ?_
  rw [HR.out]
  refine ⟨none, 0, ?_, ?_, fun _ => rfl, HB.out⟩
  ·
   rw [HQ.out.1, HQ.out.2]
   rfl
  ·
   rw [HQ.out.1]
   exact ns_nil _
 ·
  go_enter Try.func46, Try.ntmps46
  go_wp2_with fail
  generalize hF : World.alloc _ _ = F at *
  refine bodyPost_ret (v := .tuple #[.agg #[.slice none 0 0], .int .i64 1]) (by simp [results, Try.results46, go_sem, hcg0]) rfl ?_
  rw [HR.out]
  refine ⟨none, 0, ?_, ?_, fun _ => rfl, HB.out⟩
  ·
   rw [HQ.out.1, HQ.out.2]
   rfl
  ·
   rw [HQ.out.1]
   exact ns_nil _
 ·
  have HLL := Lib.hid hq
  have t0 : decide (k < 0) = false := decide_eq_false (by omega)
  have t1 : decide ((n : Int) < k) = false := decide_eq_false (by omega)
  clear hq hcg0
  go_enter Try.func46, Try.ntmps46
  go_wp2_with (go_at_call 80; go_loud (refine (loose_at _ _ n l _ HN.out HL.out).mono ?_; rintro e w1 ⟨rfl, b1⟩; have HB1 := Lib.hid b1; have hcg := (b1.block w.heap.size HLT.out).trans HGC.out; have cg := one_cell hcg; have fg := one_free hcg; clear b1 hcg; rw [HLL.out]))
  have e1 := World.cell?_setCell_same _ _ (.slice none 0 0) cg
  refine bodyPost_ret (v := .tuple #[.agg #[.slice none 0 0], .int .i64 1]) (by simp [results, Try.results46, go_sem, e1]) rfl ?_
  rw [HR.out]
  refine ⟨none, 0, ?_, ?_, fun _ => rfl, (HB.out.trans (HB1.out.mono HB.out.size)).setCell (Nat.le_refl _) _⟩
  ·
   rw [HQ.out.1, HQ.out.2]
   rfl
  ·
   rw [HQ.out.1]
   exact ns_nil _
set_option maxHeartbeats 3200000 in
theorem pof_yes (A : Option Addr) (c n k : Nat) (l : List Nd) (w : World) (h : Ns w A c l) (hn : l.length = n) (hn9 : n ≤ 900000) (hl : looseB l = true) (hk : k ≤ n) (hA : A = none → c = 0) :
  Calls Try.prog 46 #[.slice A n c, .int .i64 (k : Int)] w (RetO l (k : Int) w) := by
 have hcap := h.cap
 rw [hn] at hcap
 have HQ := Lib.hid (ofQ_yes hl (n := k) (by omega))
 obtain ⟨R, hRR⟩ : ∃ R, R = RetO l (k : Int) w := ⟨_, rfl⟩
 rw [← hRR]
 have HR := Lib.hid hRR
 have hb := (Below.refl w.heap.size w).alloc (Nat.le_refl _) (.cells #[.slice none 0 0] 31)
 have HB := Lib.hid hb
 have HN := Lib.hid (h.below hb)
 have HL := Lib.hid hn
 have HLL := Lib.hid hl
 have HA := Lib.hid hA
 have hgc : (w.alloc (.cells #[.slice none 0 0] 31)).heap[w.heap.size]? = some (.cells #[.slice none 0 0] 31) := heap_alloc_new w _
 have HGC := Lib.hid hgc
 have t0 : decide ((k : Int) < 0) = false := decide_eq_false (by omega)
 have t1 : decide ((n : Int) < (k : Int)) = false := decide_eq_false (by omega)
 clear h hn hb hgc hRR hA hl
 go_enter Try.func46, Try.ntmps46
 go_wp2_with (first
  | (go_at_call 80; go_loud (refine (loose_at _ _ n l _ HN.out HL.out).mono ?_; rintro e w1 ⟨rfl, b1⟩; have HB1 := Lib.hid b1; have HN1 := Lib.hid (HN.out.below b1); clear b1; rw [HLL.out]))
  | (go_at_call 81; go_loud (refine (pshrink_any _ _ n l k _ HN1.out HL.out HLL.out hn9 HA.out hk).mono ?_; rintro e w3 ⟨v2, cur, j, rfl, s1, s2, s3, s4, s5, s6⟩; obtain ⟨A2, c2, hv2, hn2, _, hA2⟩ := s1.shape; have HV2 := Lib.hid hv2; have HN2 := Lib.hid hn2; have HO2 := Lib.hid s1; have HCL := Lib.hid s2; have HJ := Lib.hid s3; have HJD := Lib.hid s4; have HCN := Lib.hid s5; have HB3 := Lib.hid s6; subst hv2; clear hn2 hA2 s1 s2 s3 s4 s5 s6))
  | (go_at_call 82; go_loud (refine (ordered_any A2 c2 cur.length j cur _ HN2.out rfl (by have := HCN.out; have := HL.out; omega) HCL.out HJ.out (fun a ea => (HO2.out.lt a.block (by rw [ea]; rfl)).2)).mono ?_; rintro e w4 ⟨v4, rfl, o4, b4⟩; obtain ⟨A4, c4, hv4, hn4, hA4, hB4⟩ := o4.shape; have HN4 := Lib.hid hn4; have HA4 := Lib.hid hA4; have HBL4 := Lib.hid hB4; have HB4 := Lib.hid b4; obtain ⟨qn, hqn⟩ : ∃ qn, qn = (enc (den cur j) []).1.length := ⟨_, rfl⟩; rw [← hqn] at hv4; have HQN := Lib.hid hqn; subst hv4; have hcg := (b4.block w.heap.size (Nat.lt_of_lt_of_le (box_lt HGC.out) (Nat.le_trans HB1.out.size HB3.out.size))).trans ((HB3.out.block w.heap.size (Nat.lt_of_lt_of_le (box_lt HGC.out) HB1.out.size)).trans ((HB1.out.block w.heap.size (box_lt HGC.out)).trans HGC.out)); have cg := one_cell hcg; have fg := one_free hcg; clear o4 b4 hn4 hA4 hB4 hqn hcg)))
 have e1 := World.cell?_setCell_same _ _ (.slice A4 qn c4) cg
 refine bodyPost_ret (v := .tuple #[.agg #[.slice A4 qn c4], .int .i64 0]) (by simp [results, Try.results46, go_sem, e1]) rfl ?_
 rw [HR.out]
 have hq7 : (enc (den cur j) []).1 = ofQ l (k : Int) := by rw [HJD.out, HQ.out.1]; rfl
 have hqn := HQN.out
 have HN5 := HN4.out
 rw [hq7] at hqn HN5
 have hlt : w.heap.size < w3.heap.size := Nat.lt_of_lt_of_le (box_lt HGC.out) (Nat.le_trans HB1.out.size HB3.out.size)
 refine ⟨A4, c4, by rw [HQ.out.2, hqn], ?_, HA4.out, ?_⟩
 ·
  exact HN5.gbr (gb_setCell _ _ _) (fun a ea e => by have h1 := HBL4.out a ea; have h3 : a.block = w.heap.size := Option.some.inj e; omega)
 ·
  exact ((HB.out.trans ((HB1.out.trans ((HB3.out.trans (HB4.out.mono HB3.out.size)).mono HB1.out.size)).mono HB.out.size))).setCell (Nat.le_refl _) _
theorem pof_any (A : Option Addr) (c n : Nat) (l : List Nd) (k : Int) (w : World) (h : Ns w A c l) (hn : l.length = n) (hn9 : n ≤ 900000) (hA : A = none → c = 0) :
  Calls Try.prog 46 #[.slice A n c, .int .i64 k] w (RetO l k w) := by
 cases hl : looseB l with
 | false => exact pof_no A c n l k w h hn (.inl hl)
 | true =>
  by_cases hk : 0 ≤ k ∧ k ≤ (n : Int)
  ·
   obtain ⟨j, rfl⟩ : ∃ j : Nat, k = j := ⟨k.toNat, by omega⟩
   exact pof_yes A c n j l w h hn hn9 hl (by omega) hA
  ·
   exact pof_no A c n l k w h hn (.inr (by omega))
end Go.Proofs.Ytlnmcilcifbcnaa

namespace Go.Proofs.Ytlnmcilcifbcnaa
open Go.RowKit Nds
theorem rof_at (A : Option Addr) (c n : Nat) (l : List Nd) (k : Int) (q : List Nd) (qn : Nat) (er : Int) (w : World) (h : Ns w A c l) (hn : l.length = n) (hn9 : n ≤ 900000) (hA : A = none → c = 0) (hq : ofQ l k = q) (hqn : q.length = qn) (he : ofE l k = er) :
  Calls Try.prog 21 #[.slice A n c, .int .i64 k] w fun e w' => ∃ A' c', e = .returned (.tuple #[.agg #[.slice A' qn c'], .int .i64 er]) ∧ Ns w' A' c' q ∧ (A' = none → c' = 0) ∧ Below w.heap.size w w' :=
 (rof_any A c n l k w h hn hn9 hA).mono fun e w' ⟨A', c', h1, h2, h3, h4⟩ => ⟨A', c', by rw [← hqn, ← hq, ← he]; exact h1, by rw [← hq]; exact h2, h3, h4⟩
structure Al (w W : World) (L : List (Option Addr × Nat × List Nd)) (M : List (Nat × Value)) : Prop where
 sn : Sn w W L
 bx : ∀ t ∈ M, W.heap[t.1]? = some (.cells #[t.2] 31)
theorem Al.start (w : World) : Al w w [] [] := ⟨Sn.start w, by simp⟩
theorem Al.step {w W W' : World} {L : List (Option Addr × Nat × List Nd)} {M : List (Nat × Value)} (s : Al w W L M) (b : Below W.heap.size W W') : Al w W' L M :=
 ⟨s.sn.step b, fun t ht => (b.block t.1 (box_lt (s.bx t ht))).trans (s.bx t ht)⟩
theorem Al.alloc {w W : World} {L : List (Option Addr × Nat × List Nd)} {M : List (Nat × Value)} (s : Al w W L M) (o : Obj) : Al w (W.alloc o) L M := s.step ((Below.refl _ W).alloc (Nat.le_refl _) o)
theorem Al.addN {w W : World} {L : List (Option Addr × Nat × List Nd)} {M : List (Nat × Value)} (s : Al w W L M) {A : Option Addr} {c : Nat} {l : List Nd} (h : Ns W A c l) : Al w W ((A, c, l) :: L) M := ⟨s.sn.add h, s.bx⟩
theorem Al.addB {w W : World} {L : List (Option Addr × Nat × List Nd)} {M : List (Nat × Value)} (s : Al w W L M) (v : Value) : Al w (W.alloc (.cells #[v] 31)) L ((W.heap.size, v) :: M) :=
 ⟨(s.alloc _).sn, fun t ht => by
  rcases List.mem_cons.1 ht with rfl | ht
  ·
   exact heap_alloc_new W _
  ·
   exact (s.alloc _).bx t ht⟩
theorem Al.getN {w W : World} {L : List (Option Addr × Nat × List Nd)} {M : List (Nat × Value)} (s : Al w W L M) {A : Option Addr} {c : Nat} {l : List Nd} (h : (A, c, l) ∈ L) : Ns W A c l := s.sn.get h
theorem Al.getB {w W : World} {L : List (Option Addr × Nat × List Nd)} {M : List (Nat × Value)} (s : Al w W L M) {g : Nat} {v : Value} (h : (g, v) ∈ M) : W.cell? ⟨g, 0, none⟩ = some v := box_cell (s.bx _ h)
end Go.Proofs.Ytlnmcilcifbcnaa

namespace Go.Proofs.Ytlnmcilcifbcnaa
open Go.RowKit Nds
theorem ss_end {l : List Nd} {t : Tr} : ∀ (m : Nat) (cur : List Nd) (p : Nat), (at_ cur p).lv ≤ m → SS l t cur p → ∃ cur' p', SS l t cur' p' ∧ holT (den cur' (p' + 1)) = false := by
 intro m
 induction m with
 | zero =>
  intro cur p hm h
  have := fit_lv (loose_fit h.1 h.2.1)
  omega
 | succ m ih =>
  intro cur p hm h
  cases hh : holT (den cur (p + 1)) with
  | false => exact ⟨cur, p, h, hh⟩
  | true =>
   refine ih _ _ ?_ (h.next hh)
   rw [at_last]
   show (at_ cur p).lv - 1 ≤ _
   omega
theorem ofL_len {l : List Nd} (hl : looseB l = true) {n : Nat} (hn : n ≤ l.length) : (OfL l n).length ≤ l.length + 1328 := by
 cases n with
 | zero =>
  unfold OfL
  rw [den_zero, shr_e]
  exact Nat.zero_le _
 | succ p =>
  by_cases he : den l (p + 1) = .e
  ·
   unfold OfL
   rw [he, shr_e]
   exact Nat.zero_le _
  ·
   have hs := SS.start hl (p := p) (by omega) he
   have hv := fit_lv (loose_fit hl (i := p) (by omega))
   obtain ⟨cur, q, h1, h2⟩ := ss_end 1329 l p hv.2 hs
   have h3 := h1.len
   have h4 := inv_enc h1.1 (q + 1) [] (by have := h1.2.1; omega) (inv_nil cur)
   have h5 := h4.len
   have h6 : den cur (q + 1) = shrT (den l (p + 1)) := by rw [← h1.2.2.2.1, shr_done h2]
   rw [h6] at h5
   exact Nat.le_trans h5 h3
theorem ofQ_len (l : List Nd) (k : Int) : (ofQ l k).length ≤ l.length + 1328 := by
 unfold ofQ
 split
 ·
  rename_i h
  unfold okB at h
  rw [Bool.and_eq_true, decide_eq_true_iff] at h
  exact ofL_len h.1 (by omega)
 ·
  exact Nat.zero_le _
end Go.Proofs.Ytlnmcilcifbcnaa

namespace Go.Proofs.Ytlnmcilcifbcnaa.Nds
open Num
def qtr (m x y : Nat) : Nat := x / 2 ^ m % 2 + 2 * (y / 2 ^ m % 2)
theorem qtr_lt (m x y : Nat) : qtr m x y < 4 := by unfold qtr; omega
end Go.Proofs.Ytlnmcilcifbcnaa.Nds

namespace Go.Proofs.Ytlnmcilcifbcnaa
open Go.RowKit Go.Shelf Num
attribute [local go_sem] Oper.semAt_some
structure Gro (w w' : World) : Prop where
 b : Below w.heap.size w w'
 d : w.drawn ≤ w'.drawn
end Go.Proofs.Ytlnmcilcifbcnaa

namespace Go.Proofs.Ytlnmcilcifbcnaa
open Go.RowKit Nds
def CvR (v : Cv) : Prop := CanonI v.sx v.xs ∧ CanonI v.sy v.ys ∧ v.xs.length ≤ 60000 ∧ v.ys.length ≤ 60000
end Go.Proofs.Ytlnmcilcifbcnaa

namespace Go.Proofs.Ytlnmcilcifbcnaa
open Go.RowKit Nds Num
def quaC (v : Cv) (m : Nat) : Nat := qtr m (val v.xs) (val v.ys)
theorem limb_bit {xs : List Nat} (hd : Dig xs) (m : Nat) : xs[m / 32]?.getD 0 / 2 ^ (m % 32) % 2 = val xs / 2 ^ m % 2 := by
 have h1 := val_testBit hd m
 rw [Nat.testBit_eq_decide_div_mod_eq, Nat.testBit_eq_decide_div_mod_eq] at h1
 have h2 : val xs / 2 ^ m % 2 = 1 ↔ xs[m / 32]?.getD 0 / 2 ^ (m % 32) % 2 = 1 := by
  constructor
  ·
   intro h; rw [decide_eq_true h] at h1; exact of_decide_eq_true h1.symm
  ·
   intro h; rw [decide_eq_true h] at h1; exact of_decide_eq_true h1
 omega
end Go.Proofs.Ytlnmcilcifbcnaa
