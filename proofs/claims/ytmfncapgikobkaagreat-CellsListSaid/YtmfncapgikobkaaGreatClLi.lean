/-
  cells.List: the cells of a quad, if they aren't too many.
-/
import Derived.Test.YtmfncapgikobkaaGreatGClWi
import Derived.Test.YtmfncapgikobkaaGreatGClLj
import Derived.Test.YtmfncapgikobkaaGreatGClPb
import Derived.Test.YtmfncapgikobkaaGreatGClR
import Derived.Test.YtmfncapgikobkaaGreatGNdsQ
import Derived.Test.YtmfncapgikobkaaGreatLay0

namespace Go.Proofs.YtmfncapgikobkaaGreat
set_option maxRecDepth 100000
set_option linter.unusedVariables false
set_option linter.unusedSimpArgs false
open Go.RowKit Nds Num
def RetLi (l : List Nd) (most : Int) (w : World) (e : Ending) (w' : World) : Prop :=
 Below w.heap.size w w' ∧ ((most < (countT (den l l.length) : Int) ∧ e = .returned (.tuple #[.slice none 0 0, .bool false])) ∨
  ((countT (den l l.length) : Int) ≤ most ∧ ∃ A c L, e = .returned (.tuple #[.slice A L.length c, .bool true]) ∧ Cs w' A c L ∧ (∀ v ∈ L, CvR v) ∧ L.map Cv.cl = cellsL l))
set_option maxRecDepth 100000 in
set_option maxHeartbeats 3200000 in
theorem list_many (A : Option Addr) (c n : Nat) (l : List Nd) (most : Int) (w : World) (h : Ns w A c l) (hn : l.length = n) (hl : looseB l = true) (hn9 : n ≤ 900000) (h1 : -9223372036854775808 ≤ most) (h2 : most ≤ 9223372036854775807) (hc : most < (countT (den l n) : Int)) :
  Calls Tryz.prog 15 #[.agg #[.slice A n c], .int .i64 most] w (RetLi l most w) := by
 have hcap := h.cap
 rw [hn] at hcap
 obtain ⟨W, hW⟩ : ∃ W : World, W = w.alloc (.cells #[.slice A n c] 27) := ⟨_, rfl⟩
 have hb : Below w.heap.size w W := by rw [hW]; exact (Below.refl _ w).alloc (Nat.le_refl _) _
 have b1 : W.heap[w.heap.size]? = some (.cells #[.slice A n c] 27) := by rw [hW]; exact heap_alloc_new w _
 have g0 := one_cell b1
 obtain ⟨z, hz⟩ : ∃ z : Int, z = (countT (den l n) : Int) := ⟨_, rfl⟩
 have HZ := Lib.hid hz
 have HW := Lib.hid hW
 have HB := Lib.hid hb
 have HC := Lib.hid (show Ns W A c l from h.below hb)
 have HN := Lib.hid hn
 have HLL := Lib.hid hl
 rw [← hz] at hc
 have HMC := Lib.hid hc
 rw [hW] at g0
 have hE : ∀ {w'}, Below w.heap.size w w' → RetLi l most w (.returned (.tuple #[.slice none 0 0, .bool false])) w' := fun hb' => ⟨hb', .inl ⟨by rw [HN.out, ← HZ.out]; exact HMC.out, rfl⟩⟩
 clear h hn hl hz hW hb b1
 by_cases hin : inI z = true
 ·
  have ho : outI z = z := by unfold outI; rw [if_pos hin]
  have t1 : decide (z > most) = true := decide_eq_true hc
  have HIN := Lib.hid hin
  have HO := Lib.hid ho
  clear hin ho hc
  go_enter Tryz.func15, Tryz.ntmps15
  go_wp2_with (first
   | (go_at_call 18; go_loud (rw [← HW.out]; refine (count_any A c n l _ HC.out HN.out HLL.out hn9).mono ?_; rintro e w5 ⟨A5, c5, s5, r5, rfl, u5, k5, v5, b5⟩; rw [← HZ.out] at v5; have U5 := Lib.hid u5; have K5 := Lib.hid k5; have V5 := Lib.hid v5; have B5 := Lib.hid b5; have hcap5 := u5.cap; clear u5 k5 v5 b5))
   | (go_at_call 39; go_loud (refine (bint_any s5 A5 c5 r5 _ U5.out K5.out.1).mono ?_; rintro e w6 ⟨rfl, b6⟩; rw [V5.out, HO.out, HIN.out]; have B6 := Lib.hid b6; clear b6)))
  go_ret2
  exact hE (HB.out.trans ((B5.out.trans (B6.out.mono B5.out.size)).mono HB.out.size))
 ·
  have hin' : inI z = false := by cases hq : inI z with
   | true => exact absurd hq hin
   | false => rfl
  have HIN := Lib.hid hin'
  have HO := Lib.hid (show outI z = 0 by unfold outI; rw [if_neg hin])
  clear hin hin' hc
  go_enter Tryz.func15, Tryz.ntmps15
  go_wp2_with (first
   | (go_at_call 18; go_loud (rw [← HW.out]; refine (count_any A c n l _ HC.out HN.out HLL.out hn9).mono ?_; rintro e w5 ⟨A5, c5, s5, r5, rfl, u5, k5, v5, b5⟩; rw [← HZ.out] at v5; have U5 := Lib.hid u5; have K5 := Lib.hid k5; have V5 := Lib.hid v5; have B5 := Lib.hid b5; have hcap5 := u5.cap; clear u5 k5 v5 b5))
   | (go_at_call 39; go_loud (refine (bint_any s5 A5 c5 r5 _ U5.out K5.out.1).mono ?_; rintro e w6 ⟨rfl, b6⟩; rw [V5.out, HO.out, HIN.out]; have B6 := Lib.hid b6; clear b6)))
  go_ret2
  exact hE (HB.out.trans ((B5.out.trans (B6.out.mono B5.out.size)).mono HB.out.size))
set_option maxRecDepth 100000 in
set_option maxHeartbeats 3200000 in
theorem list_none (A : Option Addr) (c n : Nat) (l : List Nd) (most : Int) (w : World) (h : Ns w A c l) (hn : l.length = n) (hl : looseB l = true) (hn9 : n ≤ 900000) (h1 : 0 ≤ most) (h2 : most ≤ 9223372036854775807) (hc : countT (den l n) = 0) :
  Calls Tryz.prog 15 #[.agg #[.slice A n c], .int .i64 most] w (RetLi l most w) := by
 have hcap := h.cap
 rw [hn] at hcap
 obtain ⟨W, hW⟩ : ∃ W : World, W = w.alloc (.cells #[.slice A n c] 27) := ⟨_, rfl⟩
 have hb : Below w.heap.size w W := by rw [hW]; exact (Below.refl _ w).alloc (Nat.le_refl _) _
 have b1 : W.heap[w.heap.size]? = some (.cells #[.slice A n c] 27) := by rw [hW]; exact heap_alloc_new w _
 have g0 := one_cell b1
 have HW := Lib.hid hW
 have HB := Lib.hid hb
 have HC := Lib.hid (show Ns W A c l from h.below hb)
 have HN := Lib.hid hn
 have HLL := Lib.hid hl
 have HCC := Lib.hid hc
 have HIN := Lib.hid (show inI 0 = true from rfl)
 have HO := Lib.hid (show outI 0 = 0 from rfl)
 have t1 : decide ((0 : Int) > most) = false := decide_eq_false (by omega)
 rw [hW] at g0
 clear h hn hl hW hb b1 hc
 go_enter Tryz.func15, Tryz.ntmps15
 go_wp2_with (first
  | (go_at_call 18; go_loud (rw [← HW.out]; refine (count_any A c n l _ HC.out HN.out HLL.out hn9).mono ?_; rintro e w5 ⟨A5, c5, s5, r5, rfl, u5, k5, v5, b5⟩; rw [HCC.out] at v5; have v5 := (show ival s5 r5 = 0 from v5); have U5 := Lib.hid u5; have K5 := Lib.hid k5; have V5 := Lib.hid v5; have B5 := Lib.hid b5; have hcap5 := u5.cap; clear u5 k5 v5 b5))
  | (go_at_call 39; go_loud (refine (bint_any s5 A5 c5 r5 _ U5.out K5.out.1).mono ?_; rintro e w6 ⟨rfl, b6⟩; rw [V5.out, HO.out, HIN.out]; have B6 := Lib.hid b6; clear b6)))
 go_ret2
 refine ⟨HB.out.trans ((B5.out.trans (B6.out.mono B5.out.size)).mono HB.out.size), .inr ⟨by rw [HN.out, HCC.out]; exact h1, none, 0, [], rfl, ⟨(fun v hv => by cases hv), Nat.le_refl _, by simp [maxLen], fun h0 => absurd h0 (Nat.lt_irrefl 0)⟩, fun v hv => (by cases hv), ?_⟩⟩
 have h3 := cells_len HLL.out
 rw [HN.out, HCC.out] at h3
 rw [List.eq_nil_of_length_eq_zero h3]
 rfl
theorem sorted_cells {M L : List Cv} {C : List Cl} (hC : Fine C) (hM : M.map Cv.cl = C) (hp : L.Perm M) (hs : L.Pairwise (fun a b => ¬ ordC b a < 0)) : L.map Cv.cl = lastF C := by
 have hpc : (L.map Cv.cl).Perm C := hM ▸ hp.map Cv.cl
 have hu := unlike_perm hpc.symm hC.2
 refine (lastF_eq ?_ (fun c hc => by have := hC.1 c (hpc.mem_iff.1 hc); omega) fun x y => by rw [lastS_unlike hC.2, lk_perm hC.2 hu hpc.symm]).symm
 unfold Srt
 rw [List.pairwise_map] at hu ⊢
 refine (hs.and hu).imp fun {a b} h => ?_
 have h1 : ¬ ltC b.cl a.cl := fun e => h.1 (ordC_neg.2 e)
 rcases ltC_tri a.cl b.cl with h2 | h2 | h2
 ·
  exact h2
 ·
  exact absurd h2 h.2
 ·
  exact absurd h2 h1
theorem found_row {W : World} {base cnt : Nat} {v : Value} {M : List Cv} (h : OwnC W base v M) (hM : M.length = cnt) (h0 : 0 < cnt) : ∃ blk c7, v = .slice (some ⟨blk, 0, none⟩) cnt c7 ∧ cnt ≤ c7 ∧ c7 ≤ maxLen ∧ blk < W.heap.size ∧ (∀ i, i < cnt → CvAt W blk (i * 5) (cat M i)) ∧ ∀ o, W.frozen? ⟨blk, o, none⟩ = false := by
 obtain ⟨A, c, h1, h2, h3, h4, h5⟩ := h.shape
 cases A with
 | none =>
  have := (h4 rfl).2
  rw [this] at hM
  simp at hM
  omega
 | some a =>
  obtain ⟨g, rfl, _, hlt, hc, hf⟩ := h5 a rfl
  rw [hM] at h1 h2 hc
  exact ⟨g, c, h1, h2, h3, hlt, hc, hf⟩
theorem one_cell5 {k : FK} {base blk cnt c7 : Nat} {L : List Cv} {xs ys : List Nat} {w w' : World} (h : Fi k base (.slice (some ⟨blk, 0, none⟩) cnt c7) L xs ys w) (hb : blk ≠ k.fb) (hg : w.grownBy w' (some blk)) : w'.cell? ⟨k.fb, 5, none⟩ = some (.slice (some ⟨blk, 0, none⟩) cnt c7) :=
 (World.cell?_of_block (w := w) (hg.block k.fb h.lt.1 (fun e => hb (Option.some.inj e).symm))).trans h.cells.1.2.2.2.2.2
theorem fi_base {k : FK} {base : Nat} {vf : Value} {L : List Cv} {xs ys : List Nat} {w : World} (h : Fi k base vf L xs ys w) {q : Nat} (hq : FiP k vf q) (hb : base ≤ k.fb ∧ base ≤ k.gx ∧ base ≤ k.gy) : base ≤ q := by
 rcases hq with e | e | e | e
 ·
  omega
 ·
  omega
 ·
  omega
 ·
  exact (h.f.lt q e).1
def SrtV (L : List Cv) : Prop := L.Pairwise (fun a b => ¬ ordC b a < 0)
def RetSo (blk cnt c7 : Nat) (M : List Cv) (w : World) (e : Ending) (w' : World) : Prop :=
 e = .returned (.tuple #[]) ∧ ∃ L : List Cv, L.Perm M ∧ SrtV L ∧ Cs w' (some ⟨blk, 0, none⟩) c7 L ∧ (∀ v ∈ L, CvR v) ∧ w.grownBy w' (some blk)
theorem sort_found (blk cnt c7 : Nat) (M : List Cv) (w : World) (hM : M.length = cnt) (h0 : 0 < cnt) (h9 : cnt ≤ 1000000) (hc1 : cnt ≤ c7) (hc2 : c7 ≤ maxLen) (hb : blk < w.heap.size) (hc : ∀ i, i < cnt → CvAt w blk (i * 5) (cat M i)) (hf : ∀ o, w.frozen? ⟨blk, o, none⟩ = false) (ha : ∀ v ∈ M, CvU w v ∧ CvR v ∧ Off blk v) :
  Calls Tryz.prog 43 #[.slice (some ⟨blk, 0, none⟩) cnt c7, .func (.func 44) #[] #[]] w (RetSo blk cnt c7 M w) := by
 have eg : ∀ args w, (callFunc 44 args).run Tryz.prog w = .ok (.enter 44 args) w := enters_of Tryz.func44 (by kernel_rfl) rfl
 refine (sortC_any 44 ordC (fun _ => True) eg (fun v u W h k' r r' _ _ => byPlace_gro v u W h k' r r') (fun {v u t} _ _ _ => by
  rw [ordC_neg, ordC_neg, ordC_neg, ordC_neg]
  unfold ltC
  exact ⟨by omega, by omega, by omega⟩) blk cnt c7 M w hM h0 h9 hb hc hf (fun v hv => ⟨(ha v hv).1, (ha v hv).2.1, trivial, (ha v hv).2.2⟩)).mono ?_
 rintro e w' ⟨rfl, L, h1, h2, h3, h4⟩
 have hl : L.length = cnt := by rw [h1.length_eq, hM]
 exact ⟨rfl, L, h1, h2, ⟨fun v hv => cv_turn (ha v (h1.mem_iff.1 hv)).1 h4 (ha v (h1.mem_iff.1 hv)).2.2, by omega, hc2, fun _ => ⟨blk, 0, rfl, Nat.lt_of_lt_of_le hb h4.size, fun i hi => by rw [Nat.zero_add]; exact h3 i (by omega)⟩⟩, fun v hv => (ha v (h1.mem_iff.1 hv)).2.1, h4⟩
set_option maxRecDepth 100000 in
set_option maxHeartbeats 3200000 in
theorem list_some (A : Option Addr) (c n : Nat) (l : List Nd) (most : Int) (w : World) (h : Ns w A c l) (hn : l.length = n) (hl : looseB l = true) (hn9 : n ≤ 900000) (h2 : most ≤ 800000) (cnt : Nat) (hc : countT (den l n) = cnt) (hc0 : 0 < cnt) (hcm : (cnt : Int) ≤ most) :
  Calls Tryz.prog 15 #[.agg #[.slice A n c], .int .i64 most] w (RetLi l most w) := by
 have hcap := h.cap
 rw [hn] at hcap
 have hn0 : 0 < n := by
  rcases Nat.eq_zero_or_pos n with h0 | h0
  ·
   rw [h0, den_zero] at hc
   have : cnt = 0 := hc.symm
   omega
  ·
   exact h0
 obtain ⟨x, hx⟩ : ∃ x, x = at_ l (n - 1) := ⟨_, rfl⟩
 have hfx := loose_fit hl (i := n - 1) (by omega)
 rw [← hx] at hfx
 have hxv := fit_lv hfx
 obtain ⟨m, hm⟩ : ∃ m : Nat, x.lv = (m : Int) + 1 := ⟨(x.lv - 1).toNat, by omega⟩
 have hm9 : m ≤ 1328 := by omega
 obtain ⟨n1, hn1⟩ : ∃ k, k = m / 32 + 1 := ⟨_, rfl⟩
 have hn19 : n1 ≤ 1000 := by omega
 obtain ⟨W, hW⟩ : ∃ W : World, W = w.alloc (.cells #[.slice A n c] 27) := ⟨_, rfl⟩
 have hb : Below w.heap.size w W := by rw [hW]; exact (Below.refl _ w).alloc (Nat.le_refl _) _
 have b1 : W.heap[w.heap.size]? = some (.cells #[.slice A n c] 27) := by rw [hW]; exact heap_alloc_new w _
 have g0 := one_cell b1
 have HW := Lib.hid hW
 have HB := Lib.hid hb
 have HB1 := Lib.hid b1
 have HC := Lib.hid (show Ns W A c l from h.below hb)
 have HN := Lib.hid hn
 have HLL := Lib.hid hl
 have HCC := Lib.hid hc
 have HIN := Lib.hid (show inI (cnt : Int) = true from decide_eq_true (by omega))
 have HO := Lib.hid (show outI (cnt : Int) = (cnt : Int) by unfold outI; rw [if_pos HIN.out])
 have t1 : decide ((cnt : Int) > most) = false := decide_eq_false (by omega)
 have t2 : ((cnt : Int) == 0) = false := beq_eq_false_iff_ne.2 (by omega)
 have HLV := Lib.hid (show levelZ l = (m : Int) + 1 by unfold levelZ; rw [if_neg (fun e => by rw [e] at hn; simp at hn; omega), hn, ← hx]; exact hm)
 have hNs := h
 have HX := Lib.hid hx
 have HM := Lib.hid hm
 have HN1 := Lib.hid hn1
 have HFX := Lib.hid hfx
 have e1 : ((m : Int) + 1 + 32 - 1) / 32 = (n1 : Int) := by omega
 have e2 : ((m : Int) + 32) / 32 = (n1 : Int) := by omega
 rw [hW] at g0
 clear h hn hl hW hb b1 hc hx hm hn1 hfx hxv
 go_enter Tryz.func15, Tryz.ntmps15
 have HWL := Lib.hid (show w.heap.size < W.heap.size from (Array.getElem?_eq_some_iff.1 HB1.out).1)
 go_wp2_with (first
  | (go_at_call 18; go_loud (rw [← HW.out]; refine (count_any A c n l _ HC.out HN.out HLL.out hn9).mono ?_; rintro e w5 ⟨A5, c5, s5, r5, rfl, u5, k5, v5, b5⟩; rw [HCC.out] at v5; have U5 := Lib.hid u5; have K5 := Lib.hid k5; have V5 := Lib.hid v5; have B5 := Lib.hid b5; have hcap5 := u5.cap; have Q5 := Lib.hid ((b5.block w.heap.size HWL.out).trans HB1.out); have g1 := one_cell Q5.out; clear u5 k5 v5 b5))
  | (go_at_call 39; go_loud (refine (bint_any s5 A5 c5 r5 _ U5.out K5.out.1).mono ?_; rintro e w6 ⟨rfl, b6⟩; rw [V5.out, HO.out, HIN.out]; have B6 := Lib.hid (B5.out.trans (b6.mono B5.out.size)); have Q6 := Lib.hid ((B6.out.block w.heap.size HWL.out).trans HB1.out); have g2 := one_cell Q6.out; clear b6 g1))
  | (go_at_call 40; go_loud (refine (nlevel_any A c n l _ (HC.out.below B6.out) HN.out).mono ?_; rintro e w7 ⟨rfl, b7⟩; rw [HLV.out]; have B7 := Lib.hid (B6.out.trans (b7.mono B6.out.size)); have Q7 := Lib.hid ((B7.out.block w.heap.size HWL.out).trans HB1.out); have g3 := one_cell Q7.out; clear b7 g2)))
 try rw [e1]
 go_cut [10] from 32 to 43 (fun s10 wx => ∃ gb gx gy gf B d hs, s10 = .pointer (some ⟨gb, 0, none⟩) ∧ hs ≠ [] ∧ Canon hs ∧ (val hs : Int) = p2 m ∧ Fi ⟨gb, gx, gy, n1, A, c, l, B, d, hs⟩ w.heap.size (.slice (some ⟨gf, 0, none⟩) 0 cnt) [] (List.replicate n1 0) (List.replicate n1 0) wx ∧ Below w.heap.size w wx ∧ wx.heap[w.heap.size]? = some (.cells #[.slice A n c] 27) ∧ w.heap.size ≤ gb ∧ w.heap.size ≤ gx ∧ w.heap.size ≤ gy)
 case first =>
  -- the region
  refine wp_region_noPanic ?_
  refine wp_region_held (S := fun w' => w'.cell? ⟨w.heap.size, 0, none⟩ = some (.slice A n c)) (by kernel_rfl) ?_
  obtain ⟨W0, hW0⟩ : ∃ W0 : World, W0 = w7.drew := ⟨_, rfl⟩
  have hI0 : LInv w A c n m n1 cnt false false false false false none 0 false [] 0 0 0 0 W0 := by
   rw [hW0]
   exact ⟨below_drewN (HB.out.trans (B7.out.mono HB.out.size)) 1, ⟨Nat.lt_of_lt_of_le HWL.out B7.out.size, Q7.out⟩, (fun e => by cases e), (fun e => by cases e), (fun e => by cases e), (fun e => by cases e), (fun e => by cases e), (fun e => by cases e)⟩
  have HNS := Lib.hid hNs
  have hs0 := hI0.held
  change wpAnyH _ _ _ _ _ _ _ _ w7.drew
  rw [← hW0]
  clear hW0 g3 e1 e2 hNs
  have j1 : IntKind.i64.wrap ((m : Int) + 1 - 1) = (m : Int) := by rw [show (m : Int) + 1 - 1 = (m : Int) by omega]; simp [IntKind.wrap, IntKind.bits, IntKind.signed]; omega
  have j2 : IntKind.i64.wrap (m : Int) = (m : Int) := by simp [IntKind.wrap, IntKind.bits, IntKind.signed]; omega
  obtain ⟨iu, hu1, hu2, hu3, hu4⟩ := info_parts Tryz.infoU
  obtain ⟨ic, hc1, hc2, hc3, hc4⟩ := info_parts Tryz.infoC
  have HIU := Lib.hid (And.intro hu1 (And.intro hu2 (And.intro hu3 hu4)))
  have HIC := Lib.hid (And.intro hc1 (And.intro hc2 (And.intro hc3 hc4)))
  clear hu1 hu2 hu3 hu4 hc1 hc2 hc3 hc4
  refine wpAnyH_take (i := 0) (v := .pointer (some ⟨w.heap.size, 0, none⟩)) rfl (by kernel_rfl) (by kernel_rfl) (by kernel_rfl) (fun _ _ _ h => h) (Or.inl ⟨by rfl, ?_⟩) hs0 ?_
  ·
   intro w' s1_
   go_simp
   try (first | done | with_reducible rfl | rfl)
  simp only [Act.put, LA]
  refine wpAnyH_take (i := 1) (v := .slice A n c) rfl (by kernel_rfl) (by kernel_rfl) (by kernel_rfl) (fun _ _ _ h => h) (Or.inl ⟨by rfl, ?_⟩) hs0 ?_
  ·
   intro w' s1_
   go_simp
   try (first | done | with_reducible rfl | rfl)
  simp only [Act.put, LA]
  refine wpAnyH_take (i := 2) (v := .int .i64 ((m : Int) + 1)) rfl (by kernel_rfl) (by kernel_rfl) (by kernel_rfl) (fun _ _ _ h => h) (Or.inl ⟨by rfl, ?_⟩) hs0 ?_
  ·
   intro w' s1_
   go_simp
   try (first | done | with_reducible rfl | rfl)
  simp only [Act.put, LA]
  refine wpAnyH_take (i := 3) (v := .int .i64 (m : Int)) rfl (by kernel_rfl) (by kernel_rfl) (by kernel_rfl) (fun _ _ _ h => h) (Or.inl ⟨by rfl, ?_⟩) hs0 ?_
  ·
   intro w' s1_
   go_simp
   try (first | done | with_reducible rfl | rfl)
  simp only [Act.put, LA]
  refine wpAnyH_take (i := 5) (v := .int .i64 (n1 : Int)) rfl (by kernel_rfl) (by kernel_rfl) (by kernel_rfl) (fun _ _ _ h => h) (Or.inl ⟨by rfl, ?_⟩) hs0 ?_
  ·
   intro w' s1_
   go_simp
   try (first | done | with_reducible rfl | rfl)
  simp only [Act.put, LA]
  refine wpAnyH_take (i := 7) (v := .int .i64 (n1 : Int)) rfl (by kernel_rfl) (by kernel_rfl) (by kernel_rfl) (fun _ _ _ h => h) (Or.inl ⟨by rfl, ?_⟩) hs0 ?_
  ·
   intro w' s1_
   go_simp
   try (first | done | with_reducible rfl | rfl)
  simp only [Act.put, LA]
  refine wpAnyH_take (i := 9) (v := .int .i64 (cnt : Int)) rfl (by kernel_rfl) (by kernel_rfl) (by kernel_rfl) (fun _ _ _ h => h) (Or.inl ⟨by rfl, ?_⟩) hs0 ?_
  ·
   intro w' s1_
   go_simp
   try (first | done | with_reducible rfl | rfl)
  simp only [Act.put, LA]
  refine wpAnyH_states2 (T := Bool × Bool × Bool × Bool × Bool) (fun q => (if q.1 then 0 else 1) + (if q.2.1 then 0 else 1) + (if q.2.2.1 then 0 else 1) + (if q.2.2.2.1 then 0 else 1) + (if q.2.2.2.2 then 0 else 1)) (fun q => #[true, true, true, true, q.1, true, q.2.1, true, q.2.2.1, true, q.2.2.2.1, (q.1 && q.2.1 && q.2.2.1 && q.2.2.2.1), q.2.2.2.2, false]) (fun q => (if q.1 then 0 else 1) + (if q.2.1 then 0 else 1) + (if q.2.2.1 then 0 else 1) + (if q.2.2.2.1 then 0 else 1) + (if q.2.2.2.2 then 0 else 1) + (if (q.1 && q.2.1 && q.2.2.1 && q.2.2.2.1) then 0 else 1) + 1) (fun q a W => ∃ B d s hs gx gy gf gb, a = { tmps := #[.agg #[.slice A n c], .int .i64 most, .pointer (some ⟨w.heap.size, 0, none⟩), undef, .slice none 0 0, .bool false, .int .i64 (cnt : Int), .bool true, .int .i64 ((m : Int) + 1), .int .i64 (n1 : Int), bif q.2.2.2.2 then .pointer (some ⟨gb, 0, none⟩) else undef, .tuple #[.int .i64 (cnt : Int), .bool true], .agg #[.slice A n c], .agg #[.bool s5, .slice A5 r5.length c5], .tuple #[.int .i64 (cnt : Int), .bool true], .int .i64 (cnt : Int), .bool true, .bool true, .bool false, .bool false, .int .i64 (cnt : Int), .int .i64 most, .bool false, .bool false, .int .i64 (cnt : Int), .bool false, .agg #[.slice A n c], .int .i64 ((m : Int) + 1), .int .i64 ((m : Int) + 1), .int .i64 ((m : Int) + 1 + 32), .int .i64 ((m : Int) + 1 + 32 - 1), .int .i64 (n1 : Int), .pointer (some ⟨w.heap.size, 0, none⟩), .slice A n c, .int .i64 ((m : Int) + 1), .int .i64 (m : Int), bif q.1 then .agg #[.bool s, .slice B hs.length d] else undef, .int .i64 (n1 : Int), bif q.2.1 then .slice (some ⟨gx, 0, none⟩) n1 n1 else undef, .int .i64 (n1 : Int), bif q.2.2.1 then .slice (some ⟨gy, 0, none⟩) n1 n1 else undef, .int .i64 (cnt : Int), bif q.2.2.2.1 then .slice (some ⟨gf, 0, none⟩) 0 cnt else undef, bif (q.1 && q.2.1 && q.2.2.1 && q.2.2.2.1) then .agg #[.slice A n c, .bool s, .slice B hs.length d, .slice (some ⟨gx, 0, none⟩) n1 n1, .slice (some ⟨gy, 0, none⟩) n1 n1, .slice (some ⟨gf, 0, none⟩) 0 cnt] else undef, undef, undef, undef, undef, undef, undef, undef, undef, undef, undef, undef, undef, undef, undef], defers := [] } ∧ LInv w A c n m n1 cnt q.1 q.2.1 q.2.2.1 q.2.2.2.1 q.2.2.2.2 B d s hs gx gy gf gb W) ?_ (false, false, false, false, false) _ _ (by kernel_rfl) (by kernel_rfl) _ _ ⟨none, 0, false, [], 0, 0, 0, 0, rfl, hI0⟩
  rintro ⟨p, x, y, f, b⟩ IH a W ⟨B, d, s, hs, gx, gy, gf, gb, rfl, hI⟩
  clear hI0 hs0
  dsimp only at hI ⊢
  have hs0 := hI.held
  cases p
  ·
   cases x
   ·
    cases y
    ·
     cases f
     ·
      cases b
      ·
       refine wpAnyH_ready (rs := [4, 6, 8, 10, 12]) (by kernel_rfl) (by simp) (AllReadyH.cons rfl (fun K hK => ?_) (AllReadyH.cons rfl (fun K hK => ?_) (AllReadyH.cons rfl (fun K hK => ?_) (AllReadyH.cons rfl (fun K hK => ?_) (AllReadyH.cons rfl (fun K hK => ?_) AllReadyH.nil)))))
       ·
        go_simp
        refine (bpow_any (m : Int) W).mono ?_
        rintro e w2 ⟨A1, c1, s1, r1, rfl, q1, k1, v1, b1⟩
        dsimp only
        have hN := hI.setP b1 q1 k1 v1 (by omega)
        refine hK.out _ _ hN.held (fun _ => ?_)
        exact IH (true, false, false, false, false) _ _ (by decide) (by kernel_rfl) (by kernel_rfl) _ _ ⟨_, _, _, _, _, _, _, _, rfl, hN⟩
       ·
        try rw [if_pos (by rfl)]
        refine oper_make_full (.tmp 37) (.tmp 37) 40 rfl w.heap.size 89 iu _ 1 Tryz.underlying40 HIU.out.1 HIU.out.2.1 HIU.out.2.2.1 .i64 .i64 _ _ n1 rfl rfl rfl rfl (by rw [HIU.out.2.2.2]; omega) (by unfold maxLen; omega) hI.gr.size ?_
        intro w2 own2 grow2
        simp only [Act.put, LA]
        have hN := hI.setX own2 grow2
        refine hK.out _ _ hN.held (fun _ => ?_)
        exact IH (false, true, false, false, false) _ _ (by decide) (by kernel_rfl) (by kernel_rfl) _ _ ⟨_, _, _, _, _, _, _, _, rfl, hN⟩
       ·
        try rw [if_pos (by rfl)]
        refine oper_make_full (.tmp 39) (.tmp 39) 40 rfl w.heap.size 89 iu _ 1 Tryz.underlying40 HIU.out.1 HIU.out.2.1 HIU.out.2.2.1 .i64 .i64 _ _ n1 rfl rfl rfl rfl (by rw [HIU.out.2.2.2]; omega) (by unfold maxLen; omega) hI.gr.size ?_
        intro w2 own2 grow2
        simp only [Act.put, LA]
        have hN := hI.setY own2 grow2
        refine hK.out _ _ hN.held (fun _ => ?_)
        exact IH (false, false, true, false, false) _ _ (by decide) (by kernel_rfl) (by kernel_rfl) _ _ ⟨_, _, _, _, _, _, _, _, rfl, hN⟩
       ·
        try rw [if_pos (by rfl)]
        refine oper_make_cap (.const (.int .i64 0)) (.tmp 41) 22 rfl 47 ic (cvv cv0) 5 Tryz.underlying22 HIC.out.1 HIC.out.2.1 HIC.out.2.2.1 .i64 .i64 cnt rfl rfl (by rw [HIC.out.2.2.2]; omega) (by unfold maxLen; omega) ?_
        simp only [Act.put, LA]
        have hN := hI.setF (by omega)
        refine hK.out _ _ hN.held (fun _ => ?_)
        exact IH (false, false, false, true, false) _ _ (by decide) (by kernel_rfl) (by kernel_rfl) _ _ ⟨_, _, _, _, _, _, _, _, rfl, hN⟩
       ·
        go_simp
        have hN := hI.setB
        refine hK.out _ _ hN.held (fun _ => ?_)
        exact IH (false, false, false, false, true) _ _ (by decide) (by kernel_rfl) (by kernel_rfl) _ _ ⟨_, _, _, _, _, _, _, _, rfl, hN⟩
      ·
       refine wpAnyH_ready (rs := [4, 6, 8, 10]) (by kernel_rfl) (by simp) (AllReadyH.cons rfl (fun K hK => ?_) (AllReadyH.cons rfl (fun K hK => ?_) (AllReadyH.cons rfl (fun K hK => ?_) (AllReadyH.cons rfl (fun K hK => ?_) AllReadyH.nil))))
       ·
        go_simp
        refine (bpow_any (m : Int) W).mono ?_
        rintro e w2 ⟨A1, c1, s1, r1, rfl, q1, k1, v1, b1⟩
        dsimp only
        have hN := hI.setP b1 q1 k1 v1 (by omega)
        refine hK.out _ _ hN.held (fun _ => ?_)
        exact IH (true, false, false, false, true) _ _ (by decide) (by kernel_rfl) (by kernel_rfl) _ _ ⟨_, _, _, _, _, _, _, _, rfl, hN⟩
       ·
        try rw [if_pos (by rfl)]
        refine oper_make_full (.tmp 37) (.tmp 37) 40 rfl w.heap.size 89 iu _ 1 Tryz.underlying40 HIU.out.1 HIU.out.2.1 HIU.out.2.2.1 .i64 .i64 _ _ n1 rfl rfl rfl rfl (by rw [HIU.out.2.2.2]; omega) (by unfold maxLen; omega) hI.gr.size ?_
        intro w2 own2 grow2
        simp only [Act.put, LA]
        have hN := hI.setX own2 grow2
        refine hK.out _ _ hN.held (fun _ => ?_)
        exact IH (false, true, false, false, true) _ _ (by decide) (by kernel_rfl) (by kernel_rfl) _ _ ⟨_, _, _, _, _, _, _, _, rfl, hN⟩
       ·
        try rw [if_pos (by rfl)]
        refine oper_make_full (.tmp 39) (.tmp 39) 40 rfl w.heap.size 89 iu _ 1 Tryz.underlying40 HIU.out.1 HIU.out.2.1 HIU.out.2.2.1 .i64 .i64 _ _ n1 rfl rfl rfl rfl (by rw [HIU.out.2.2.2]; omega) (by unfold maxLen; omega) hI.gr.size ?_
        intro w2 own2 grow2
        simp only [Act.put, LA]
        have hN := hI.setY own2 grow2
        refine hK.out _ _ hN.held (fun _ => ?_)
        exact IH (false, false, true, false, true) _ _ (by decide) (by kernel_rfl) (by kernel_rfl) _ _ ⟨_, _, _, _, _, _, _, _, rfl, hN⟩
       ·
        try rw [if_pos (by rfl)]
        refine oper_make_cap (.const (.int .i64 0)) (.tmp 41) 22 rfl 47 ic (cvv cv0) 5 Tryz.underlying22 HIC.out.1 HIC.out.2.1 HIC.out.2.2.1 .i64 .i64 cnt rfl rfl (by rw [HIC.out.2.2.2]; omega) (by unfold maxLen; omega) ?_
        simp only [Act.put, LA]
        have hN := hI.setF (by omega)
        refine hK.out _ _ hN.held (fun _ => ?_)
        exact IH (false, false, false, true, true) _ _ (by decide) (by kernel_rfl) (by kernel_rfl) _ _ ⟨_, _, _, _, _, _, _, _, rfl, hN⟩
     ·
      cases b
      ·
       refine wpAnyH_ready (rs := [4, 6, 8, 12]) (by kernel_rfl) (by simp) (AllReadyH.cons rfl (fun K hK => ?_) (AllReadyH.cons rfl (fun K hK => ?_) (AllReadyH.cons rfl (fun K hK => ?_) (AllReadyH.cons rfl (fun K hK => ?_) AllReadyH.nil))))
       ·
        go_simp
        refine (bpow_any (m : Int) W).mono ?_
        rintro e w2 ⟨A1, c1, s1, r1, rfl, q1, k1, v1, b1⟩
        dsimp only
        have hN := hI.setP b1 q1 k1 v1 (by omega)
        refine hK.out _ _ hN.held (fun _ => ?_)
        exact IH (true, false, false, true, false) _ _ (by decide) (by kernel_rfl) (by kernel_rfl) _ _ ⟨_, _, _, _, _, _, _, _, rfl, hN⟩
       ·
        try rw [if_pos (by rfl)]
        refine oper_make_full (.tmp 37) (.tmp 37) 40 rfl w.heap.size 89 iu _ 1 Tryz.underlying40 HIU.out.1 HIU.out.2.1 HIU.out.2.2.1 .i64 .i64 _ _ n1 rfl rfl rfl rfl (by rw [HIU.out.2.2.2]; omega) (by unfold maxLen; omega) hI.gr.size ?_
        intro w2 own2 grow2
        simp only [Act.put, LA]
        have hN := hI.setX own2 grow2
        refine hK.out _ _ hN.held (fun _ => ?_)
        exact IH (false, true, false, true, false) _ _ (by decide) (by kernel_rfl) (by kernel_rfl) _ _ ⟨_, _, _, _, _, _, _, _, rfl, hN⟩
       ·
        try rw [if_pos (by rfl)]
        refine oper_make_full (.tmp 39) (.tmp 39) 40 rfl w.heap.size 89 iu _ 1 Tryz.underlying40 HIU.out.1 HIU.out.2.1 HIU.out.2.2.1 .i64 .i64 _ _ n1 rfl rfl rfl rfl (by rw [HIU.out.2.2.2]; omega) (by unfold maxLen; omega) hI.gr.size ?_
        intro w2 own2 grow2
        simp only [Act.put, LA]
        have hN := hI.setY own2 grow2
        refine hK.out _ _ hN.held (fun _ => ?_)
        exact IH (false, false, true, true, false) _ _ (by decide) (by kernel_rfl) (by kernel_rfl) _ _ ⟨_, _, _, _, _, _, _, _, rfl, hN⟩
       ·
        go_simp
        have hN := hI.setB
        refine hK.out _ _ hN.held (fun _ => ?_)
        exact IH (false, false, false, true, true) _ _ (by decide) (by kernel_rfl) (by kernel_rfl) _ _ ⟨_, _, _, _, _, _, _, _, rfl, hN⟩
      ·
       refine wpAnyH_ready (rs := [4, 6, 8]) (by kernel_rfl) (by simp) (AllReadyH.cons rfl (fun K hK => ?_) (AllReadyH.cons rfl (fun K hK => ?_) (AllReadyH.cons rfl (fun K hK => ?_) AllReadyH.nil)))
       ·
        go_simp
        refine (bpow_any (m : Int) W).mono ?_
        rintro e w2 ⟨A1, c1, s1, r1, rfl, q1, k1, v1, b1⟩
        dsimp only
        have hN := hI.setP b1 q1 k1 v1 (by omega)
        refine hK.out _ _ hN.held (fun _ => ?_)
        exact IH (true, false, false, true, true) _ _ (by decide) (by kernel_rfl) (by kernel_rfl) _ _ ⟨_, _, _, _, _, _, _, _, rfl, hN⟩
       ·
        try rw [if_pos (by rfl)]
        refine oper_make_full (.tmp 37) (.tmp 37) 40 rfl w.heap.size 89 iu _ 1 Tryz.underlying40 HIU.out.1 HIU.out.2.1 HIU.out.2.2.1 .i64 .i64 _ _ n1 rfl rfl rfl rfl (by rw [HIU.out.2.2.2]; omega) (by unfold maxLen; omega) hI.gr.size ?_
        intro w2 own2 grow2
        simp only [Act.put, LA]
        have hN := hI.setX own2 grow2
        refine hK.out _ _ hN.held (fun _ => ?_)
        exact IH (false, true, false, true, true) _ _ (by decide) (by kernel_rfl) (by kernel_rfl) _ _ ⟨_, _, _, _, _, _, _, _, rfl, hN⟩
       ·
        try rw [if_pos (by rfl)]
        refine oper_make_full (.tmp 39) (.tmp 39) 40 rfl w.heap.size 89 iu _ 1 Tryz.underlying40 HIU.out.1 HIU.out.2.1 HIU.out.2.2.1 .i64 .i64 _ _ n1 rfl rfl rfl rfl (by rw [HIU.out.2.2.2]; omega) (by unfold maxLen; omega) hI.gr.size ?_
        intro w2 own2 grow2
        simp only [Act.put, LA]
        have hN := hI.setY own2 grow2
        refine hK.out _ _ hN.held (fun _ => ?_)
        exact IH (false, false, true, true, true) _ _ (by decide) (by kernel_rfl) (by kernel_rfl) _ _ ⟨_, _, _, _, _, _, _, _, rfl, hN⟩
    ·
     cases f
     ·
      cases b
      ·
       refine wpAnyH_ready (rs := [4, 6, 10, 12]) (by kernel_rfl) (by simp) (AllReadyH.cons rfl (fun K hK => ?_) (AllReadyH.cons rfl (fun K hK => ?_) (AllReadyH.cons rfl (fun K hK => ?_) (AllReadyH.cons rfl (fun K hK => ?_) AllReadyH.nil))))
       ·
        go_simp
        refine (bpow_any (m : Int) W).mono ?_
        rintro e w2 ⟨A1, c1, s1, r1, rfl, q1, k1, v1, b1⟩
        dsimp only
        have hN := hI.setP b1 q1 k1 v1 (by omega)
        refine hK.out _ _ hN.held (fun _ => ?_)
        exact IH (true, false, true, false, false) _ _ (by decide) (by kernel_rfl) (by kernel_rfl) _ _ ⟨_, _, _, _, _, _, _, _, rfl, hN⟩
       ·
        try rw [if_pos (by rfl)]
        refine oper_make_full (.tmp 37) (.tmp 37) 40 rfl w.heap.size 89 iu _ 1 Tryz.underlying40 HIU.out.1 HIU.out.2.1 HIU.out.2.2.1 .i64 .i64 _ _ n1 rfl rfl rfl rfl (by rw [HIU.out.2.2.2]; omega) (by unfold maxLen; omega) hI.gr.size ?_
        intro w2 own2 grow2
        simp only [Act.put, LA]
        have hN := hI.setX own2 grow2
        refine hK.out _ _ hN.held (fun _ => ?_)
        exact IH (false, true, true, false, false) _ _ (by decide) (by kernel_rfl) (by kernel_rfl) _ _ ⟨_, _, _, _, _, _, _, _, rfl, hN⟩
       ·
        try rw [if_pos (by rfl)]
        refine oper_make_cap (.const (.int .i64 0)) (.tmp 41) 22 rfl 47 ic (cvv cv0) 5 Tryz.underlying22 HIC.out.1 HIC.out.2.1 HIC.out.2.2.1 .i64 .i64 cnt rfl rfl (by rw [HIC.out.2.2.2]; omega) (by unfold maxLen; omega) ?_
        simp only [Act.put, LA]
        have hN := hI.setF (by omega)
        refine hK.out _ _ hN.held (fun _ => ?_)
        exact IH (false, false, true, true, false) _ _ (by decide) (by kernel_rfl) (by kernel_rfl) _ _ ⟨_, _, _, _, _, _, _, _, rfl, hN⟩
       ·
        go_simp
        have hN := hI.setB
        refine hK.out _ _ hN.held (fun _ => ?_)
        exact IH (false, false, true, false, true) _ _ (by decide) (by kernel_rfl) (by kernel_rfl) _ _ ⟨_, _, _, _, _, _, _, _, rfl, hN⟩
      ·
       refine wpAnyH_ready (rs := [4, 6, 10]) (by kernel_rfl) (by simp) (AllReadyH.cons rfl (fun K hK => ?_) (AllReadyH.cons rfl (fun K hK => ?_) (AllReadyH.cons rfl (fun K hK => ?_) AllReadyH.nil)))
       ·
        go_simp
        refine (bpow_any (m : Int) W).mono ?_
        rintro e w2 ⟨A1, c1, s1, r1, rfl, q1, k1, v1, b1⟩
        dsimp only
        have hN := hI.setP b1 q1 k1 v1 (by omega)
        refine hK.out _ _ hN.held (fun _ => ?_)
        exact IH (true, false, true, false, true) _ _ (by decide) (by kernel_rfl) (by kernel_rfl) _ _ ⟨_, _, _, _, _, _, _, _, rfl, hN⟩
       ·
        try rw [if_pos (by rfl)]
        refine oper_make_full (.tmp 37) (.tmp 37) 40 rfl w.heap.size 89 iu _ 1 Tryz.underlying40 HIU.out.1 HIU.out.2.1 HIU.out.2.2.1 .i64 .i64 _ _ n1 rfl rfl rfl rfl (by rw [HIU.out.2.2.2]; omega) (by unfold maxLen; omega) hI.gr.size ?_
        intro w2 own2 grow2
        simp only [Act.put, LA]
        have hN := hI.setX own2 grow2
        refine hK.out _ _ hN.held (fun _ => ?_)
        exact IH (false, true, true, false, true) _ _ (by decide) (by kernel_rfl) (by kernel_rfl) _ _ ⟨_, _, _, _, _, _, _, _, rfl, hN⟩
       ·
        try rw [if_pos (by rfl)]
        refine oper_make_cap (.const (.int .i64 0)) (.tmp 41) 22 rfl 47 ic (cvv cv0) 5 Tryz.underlying22 HIC.out.1 HIC.out.2.1 HIC.out.2.2.1 .i64 .i64 cnt rfl rfl (by rw [HIC.out.2.2.2]; omega) (by unfold maxLen; omega) ?_
        simp only [Act.put, LA]
        have hN := hI.setF (by omega)
        refine hK.out _ _ hN.held (fun _ => ?_)
        exact IH (false, false, true, true, true) _ _ (by decide) (by kernel_rfl) (by kernel_rfl) _ _ ⟨_, _, _, _, _, _, _, _, rfl, hN⟩
     ·
      cases b
      ·
       refine wpAnyH_ready (rs := [4, 6, 12]) (by kernel_rfl) (by simp) (AllReadyH.cons rfl (fun K hK => ?_) (AllReadyH.cons rfl (fun K hK => ?_) (AllReadyH.cons rfl (fun K hK => ?_) AllReadyH.nil)))
       ·
        go_simp
        refine (bpow_any (m : Int) W).mono ?_
        rintro e w2 ⟨A1, c1, s1, r1, rfl, q1, k1, v1, b1⟩
        dsimp only
        have hN := hI.setP b1 q1 k1 v1 (by omega)
        refine hK.out _ _ hN.held (fun _ => ?_)
        exact IH (true, false, true, true, false) _ _ (by decide) (by kernel_rfl) (by kernel_rfl) _ _ ⟨_, _, _, _, _, _, _, _, rfl, hN⟩
       ·
        try rw [if_pos (by rfl)]
        refine oper_make_full (.tmp 37) (.tmp 37) 40 rfl w.heap.size 89 iu _ 1 Tryz.underlying40 HIU.out.1 HIU.out.2.1 HIU.out.2.2.1 .i64 .i64 _ _ n1 rfl rfl rfl rfl (by rw [HIU.out.2.2.2]; omega) (by unfold maxLen; omega) hI.gr.size ?_
        intro w2 own2 grow2
        simp only [Act.put, LA]
        have hN := hI.setX own2 grow2
        refine hK.out _ _ hN.held (fun _ => ?_)
        exact IH (false, true, true, true, false) _ _ (by decide) (by kernel_rfl) (by kernel_rfl) _ _ ⟨_, _, _, _, _, _, _, _, rfl, hN⟩
       ·
        go_simp
        have hN := hI.setB
        refine hK.out _ _ hN.held (fun _ => ?_)
        exact IH (false, false, true, true, true) _ _ (by decide) (by kernel_rfl) (by kernel_rfl) _ _ ⟨_, _, _, _, _, _, _, _, rfl, hN⟩
      ·
       refine wpAnyH_ready (rs := [4, 6]) (by kernel_rfl) (by simp) (AllReadyH.cons rfl (fun K hK => ?_) (AllReadyH.cons rfl (fun K hK => ?_) AllReadyH.nil))
       ·
        go_simp
        refine (bpow_any (m : Int) W).mono ?_
        rintro e w2 ⟨A1, c1, s1, r1, rfl, q1, k1, v1, b1⟩
        dsimp only
        have hN := hI.setP b1 q1 k1 v1 (by omega)
        refine hK.out _ _ hN.held (fun _ => ?_)
        exact IH (true, false, true, true, true) _ _ (by decide) (by kernel_rfl) (by kernel_rfl) _ _ ⟨_, _, _, _, _, _, _, _, rfl, hN⟩
       ·
        try rw [if_pos (by rfl)]
        refine oper_make_full (.tmp 37) (.tmp 37) 40 rfl w.heap.size 89 iu _ 1 Tryz.underlying40 HIU.out.1 HIU.out.2.1 HIU.out.2.2.1 .i64 .i64 _ _ n1 rfl rfl rfl rfl (by rw [HIU.out.2.2.2]; omega) (by unfold maxLen; omega) hI.gr.size ?_
        intro w2 own2 grow2
        simp only [Act.put, LA]
        have hN := hI.setX own2 grow2
        refine hK.out _ _ hN.held (fun _ => ?_)
        exact IH (false, true, true, true, true) _ _ (by decide) (by kernel_rfl) (by kernel_rfl) _ _ ⟨_, _, _, _, _, _, _, _, rfl, hN⟩
   ·
    cases y
    ·
     cases f
     ·
      cases b
      ·
       refine wpAnyH_ready (rs := [4, 8, 10, 12]) (by kernel_rfl) (by simp) (AllReadyH.cons rfl (fun K hK => ?_) (AllReadyH.cons rfl (fun K hK => ?_) (AllReadyH.cons rfl (fun K hK => ?_) (AllReadyH.cons rfl (fun K hK => ?_) AllReadyH.nil))))
       ·
        go_simp
        refine (bpow_any (m : Int) W).mono ?_
        rintro e w2 ⟨A1, c1, s1, r1, rfl, q1, k1, v1, b1⟩
        dsimp only
        have hN := hI.setP b1 q1 k1 v1 (by omega)
        refine hK.out _ _ hN.held (fun _ => ?_)
        exact IH (true, true, false, false, false) _ _ (by decide) (by kernel_rfl) (by kernel_rfl) _ _ ⟨_, _, _, _, _, _, _, _, rfl, hN⟩
       ·
        try rw [if_pos (by rfl)]
        refine oper_make_full (.tmp 39) (.tmp 39) 40 rfl w.heap.size 89 iu _ 1 Tryz.underlying40 HIU.out.1 HIU.out.2.1 HIU.out.2.2.1 .i64 .i64 _ _ n1 rfl rfl rfl rfl (by rw [HIU.out.2.2.2]; omega) (by unfold maxLen; omega) hI.gr.size ?_
        intro w2 own2 grow2
        simp only [Act.put, LA]
        have hN := hI.setY own2 grow2
        refine hK.out _ _ hN.held (fun _ => ?_)
        exact IH (false, true, true, false, false) _ _ (by decide) (by kernel_rfl) (by kernel_rfl) _ _ ⟨_, _, _, _, _, _, _, _, rfl, hN⟩
       ·
        try rw [if_pos (by rfl)]
        refine oper_make_cap (.const (.int .i64 0)) (.tmp 41) 22 rfl 47 ic (cvv cv0) 5 Tryz.underlying22 HIC.out.1 HIC.out.2.1 HIC.out.2.2.1 .i64 .i64 cnt rfl rfl (by rw [HIC.out.2.2.2]; omega) (by unfold maxLen; omega) ?_
        simp only [Act.put, LA]
        have hN := hI.setF (by omega)
        refine hK.out _ _ hN.held (fun _ => ?_)
        exact IH (false, true, false, true, false) _ _ (by decide) (by kernel_rfl) (by kernel_rfl) _ _ ⟨_, _, _, _, _, _, _, _, rfl, hN⟩
       ·
        go_simp
        have hN := hI.setB
        refine hK.out _ _ hN.held (fun _ => ?_)
        exact IH (false, true, false, false, true) _ _ (by decide) (by kernel_rfl) (by kernel_rfl) _ _ ⟨_, _, _, _, _, _, _, _, rfl, hN⟩
      ·
       refine wpAnyH_ready (rs := [4, 8, 10]) (by kernel_rfl) (by simp) (AllReadyH.cons rfl (fun K hK => ?_) (AllReadyH.cons rfl (fun K hK => ?_) (AllReadyH.cons rfl (fun K hK => ?_) AllReadyH.nil)))
       ·
        go_simp
        refine (bpow_any (m : Int) W).mono ?_
        rintro e w2 ⟨A1, c1, s1, r1, rfl, q1, k1, v1, b1⟩
        dsimp only
        have hN := hI.setP b1 q1 k1 v1 (by omega)
        refine hK.out _ _ hN.held (fun _ => ?_)
        exact IH (true, true, false, false, true) _ _ (by decide) (by kernel_rfl) (by kernel_rfl) _ _ ⟨_, _, _, _, _, _, _, _, rfl, hN⟩
       ·
        try rw [if_pos (by rfl)]
        refine oper_make_full (.tmp 39) (.tmp 39) 40 rfl w.heap.size 89 iu _ 1 Tryz.underlying40 HIU.out.1 HIU.out.2.1 HIU.out.2.2.1 .i64 .i64 _ _ n1 rfl rfl rfl rfl (by rw [HIU.out.2.2.2]; omega) (by unfold maxLen; omega) hI.gr.size ?_
        intro w2 own2 grow2
        simp only [Act.put, LA]
        have hN := hI.setY own2 grow2
        refine hK.out _ _ hN.held (fun _ => ?_)
        exact IH (false, true, true, false, true) _ _ (by decide) (by kernel_rfl) (by kernel_rfl) _ _ ⟨_, _, _, _, _, _, _, _, rfl, hN⟩
       ·
        try rw [if_pos (by rfl)]
        refine oper_make_cap (.const (.int .i64 0)) (.tmp 41) 22 rfl 47 ic (cvv cv0) 5 Tryz.underlying22 HIC.out.1 HIC.out.2.1 HIC.out.2.2.1 .i64 .i64 cnt rfl rfl (by rw [HIC.out.2.2.2]; omega) (by unfold maxLen; omega) ?_
        simp only [Act.put, LA]
        have hN := hI.setF (by omega)
        refine hK.out _ _ hN.held (fun _ => ?_)
        exact IH (false, true, false, true, true) _ _ (by decide) (by kernel_rfl) (by kernel_rfl) _ _ ⟨_, _, _, _, _, _, _, _, rfl, hN⟩
     ·
      cases b
      ·
       refine wpAnyH_ready (rs := [4, 8, 12]) (by kernel_rfl) (by simp) (AllReadyH.cons rfl (fun K hK => ?_) (AllReadyH.cons rfl (fun K hK => ?_) (AllReadyH.cons rfl (fun K hK => ?_) AllReadyH.nil)))
       ·
        go_simp
        refine (bpow_any (m : Int) W).mono ?_
        rintro e w2 ⟨A1, c1, s1, r1, rfl, q1, k1, v1, b1⟩
        dsimp only
        have hN := hI.setP b1 q1 k1 v1 (by omega)
        refine hK.out _ _ hN.held (fun _ => ?_)
        exact IH (true, true, false, true, false) _ _ (by decide) (by kernel_rfl) (by kernel_rfl) _ _ ⟨_, _, _, _, _, _, _, _, rfl, hN⟩
       ·
        try rw [if_pos (by rfl)]
        refine oper_make_full (.tmp 39) (.tmp 39) 40 rfl w.heap.size 89 iu _ 1 Tryz.underlying40 HIU.out.1 HIU.out.2.1 HIU.out.2.2.1 .i64 .i64 _ _ n1 rfl rfl rfl rfl (by rw [HIU.out.2.2.2]; omega) (by unfold maxLen; omega) hI.gr.size ?_
        intro w2 own2 grow2
        simp only [Act.put, LA]
        have hN := hI.setY own2 grow2
        refine hK.out _ _ hN.held (fun _ => ?_)
        exact IH (false, true, true, true, false) _ _ (by decide) (by kernel_rfl) (by kernel_rfl) _ _ ⟨_, _, _, _, _, _, _, _, rfl, hN⟩
       ·
        go_simp
        have hN := hI.setB
        refine hK.out _ _ hN.held (fun _ => ?_)
        exact IH (false, true, false, true, true) _ _ (by decide) (by kernel_rfl) (by kernel_rfl) _ _ ⟨_, _, _, _, _, _, _, _, rfl, hN⟩
      ·
       refine wpAnyH_ready (rs := [4, 8]) (by kernel_rfl) (by simp) (AllReadyH.cons rfl (fun K hK => ?_) (AllReadyH.cons rfl (fun K hK => ?_) AllReadyH.nil))
       ·
        go_simp
        refine (bpow_any (m : Int) W).mono ?_
        rintro e w2 ⟨A1, c1, s1, r1, rfl, q1, k1, v1, b1⟩
        dsimp only
        have hN := hI.setP b1 q1 k1 v1 (by omega)
        refine hK.out _ _ hN.held (fun _ => ?_)
        exact IH (true, true, false, true, true) _ _ (by decide) (by kernel_rfl) (by kernel_rfl) _ _ ⟨_, _, _, _, _, _, _, _, rfl, hN⟩
       ·
        try rw [if_pos (by rfl)]
        refine oper_make_full (.tmp 39) (.tmp 39) 40 rfl w.heap.size 89 iu _ 1 Tryz.underlying40 HIU.out.1 HIU.out.2.1 HIU.out.2.2.1 .i64 .i64 _ _ n1 rfl rfl rfl rfl (by rw [HIU.out.2.2.2]; omega) (by unfold maxLen; omega) hI.gr.size ?_
        intro w2 own2 grow2
        simp only [Act.put, LA]
        have hN := hI.setY own2 grow2
        refine hK.out _ _ hN.held (fun _ => ?_)
        exact IH (false, true, true, true, true) _ _ (by decide) (by kernel_rfl) (by kernel_rfl) _ _ ⟨_, _, _, _, _, _, _, _, rfl, hN⟩
    ·
     cases f
     ·
      cases b
      ·
       refine wpAnyH_ready (rs := [4, 10, 12]) (by kernel_rfl) (by simp) (AllReadyH.cons rfl (fun K hK => ?_) (AllReadyH.cons rfl (fun K hK => ?_) (AllReadyH.cons rfl (fun K hK => ?_) AllReadyH.nil)))
       ·
        go_simp
        refine (bpow_any (m : Int) W).mono ?_
        rintro e w2 ⟨A1, c1, s1, r1, rfl, q1, k1, v1, b1⟩
        dsimp only
        have hN := hI.setP b1 q1 k1 v1 (by omega)
        refine hK.out _ _ hN.held (fun _ => ?_)
        exact IH (true, true, true, false, false) _ _ (by decide) (by kernel_rfl) (by kernel_rfl) _ _ ⟨_, _, _, _, _, _, _, _, rfl, hN⟩
       ·
        try rw [if_pos (by rfl)]
        refine oper_make_cap (.const (.int .i64 0)) (.tmp 41) 22 rfl 47 ic (cvv cv0) 5 Tryz.underlying22 HIC.out.1 HIC.out.2.1 HIC.out.2.2.1 .i64 .i64 cnt rfl rfl (by rw [HIC.out.2.2.2]; omega) (by unfold maxLen; omega) ?_
        simp only [Act.put, LA]
        have hN := hI.setF (by omega)
        refine hK.out _ _ hN.held (fun _ => ?_)
        exact IH (false, true, true, true, false) _ _ (by decide) (by kernel_rfl) (by kernel_rfl) _ _ ⟨_, _, _, _, _, _, _, _, rfl, hN⟩
       ·
        go_simp
        have hN := hI.setB
        refine hK.out _ _ hN.held (fun _ => ?_)
        exact IH (false, true, true, false, true) _ _ (by decide) (by kernel_rfl) (by kernel_rfl) _ _ ⟨_, _, _, _, _, _, _, _, rfl, hN⟩
      ·
       refine wpAnyH_ready (rs := [4, 10]) (by kernel_rfl) (by simp) (AllReadyH.cons rfl (fun K hK => ?_) (AllReadyH.cons rfl (fun K hK => ?_) AllReadyH.nil))
       ·
        go_simp
        refine (bpow_any (m : Int) W).mono ?_
        rintro e w2 ⟨A1, c1, s1, r1, rfl, q1, k1, v1, b1⟩
        dsimp only
        have hN := hI.setP b1 q1 k1 v1 (by omega)
        refine hK.out _ _ hN.held (fun _ => ?_)
        exact IH (true, true, true, false, true) _ _ (by decide) (by kernel_rfl) (by kernel_rfl) _ _ ⟨_, _, _, _, _, _, _, _, rfl, hN⟩
       ·
        try rw [if_pos (by rfl)]
        refine oper_make_cap (.const (.int .i64 0)) (.tmp 41) 22 rfl 47 ic (cvv cv0) 5 Tryz.underlying22 HIC.out.1 HIC.out.2.1 HIC.out.2.2.1 .i64 .i64 cnt rfl rfl (by rw [HIC.out.2.2.2]; omega) (by unfold maxLen; omega) ?_
        simp only [Act.put, LA]
        have hN := hI.setF (by omega)
        refine hK.out _ _ hN.held (fun _ => ?_)
        exact IH (false, true, true, true, true) _ _ (by decide) (by kernel_rfl) (by kernel_rfl) _ _ ⟨_, _, _, _, _, _, _, _, rfl, hN⟩
     ·
      cases b
      ·
       refine wpAnyH_ready (rs := [4, 12]) (by kernel_rfl) (by simp) (AllReadyH.cons rfl (fun K hK => ?_) (AllReadyH.cons rfl (fun K hK => ?_) AllReadyH.nil))
       ·
        go_simp
        refine (bpow_any (m : Int) W).mono ?_
        rintro e w2 ⟨A1, c1, s1, r1, rfl, q1, k1, v1, b1⟩
        dsimp only
        have hN := hI.setP b1 q1 k1 v1 (by omega)
        refine hK.out _ _ hN.held (fun _ => ?_)
        refine wpAnyH_take (i := 11) (v := .agg #[.slice A n c, .bool s1, .slice A1 r1.length c1, .slice (some ⟨gx, 0, none⟩) n1 n1, .slice (some ⟨gy, 0, none⟩) n1 n1, .slice (some ⟨gf, 0, none⟩) 0 cnt]) rfl (by kernel_rfl) (by kernel_rfl) (by kernel_rfl) (fun _ _ _ h => h) (Or.inl ⟨by rfl, ?_⟩) hN.held ?_
        ·
         intro w' s1_
         go_simp
         try (first | done | with_reducible rfl | rfl)
        simp only [Act.put, LA]
        exact IH (true, true, true, true, false) _ _ (by decide) (by kernel_rfl) (by kernel_rfl) _ _ ⟨_, _, _, _, _, _, _, _, rfl, hN⟩
       ·
        go_simp
        have hN := hI.setB
        refine hK.out _ _ hN.held (fun _ => ?_)
        exact IH (false, true, true, true, true) _ _ (by decide) (by kernel_rfl) (by kernel_rfl) _ _ ⟨_, _, _, _, _, _, _, _, rfl, hN⟩
      ·
       refine wpAnyH_ready (rs := [4]) (by kernel_rfl) (by simp) (AllReadyH.cons rfl (fun K hK => ?_) AllReadyH.nil)
       go_simp
       refine (bpow_any (m : Int) W).mono ?_
       rintro e w2 ⟨A1, c1, s1, r1, rfl, q1, k1, v1, b1⟩
       dsimp only
       have hN := hI.setP b1 q1 k1 v1 (by omega)
       refine hK.out _ _ hN.held (fun _ => ?_)
       refine wpAnyH_take (i := 11) (v := .agg #[.slice A n c, .bool s1, .slice A1 r1.length c1, .slice (some ⟨gx, 0, none⟩) n1 n1, .slice (some ⟨gy, 0, none⟩) n1 n1, .slice (some ⟨gf, 0, none⟩) 0 cnt]) rfl (by kernel_rfl) (by kernel_rfl) (by kernel_rfl) (fun _ _ _ h => h) (Or.inl ⟨by rfl, ?_⟩) hN.held ?_
       ·
        intro w' s1_
        go_simp
        try (first | done | with_reducible rfl | rfl)
       simp only [Act.put, LA]
       exact IH (true, true, true, true, true) _ _ (by decide) (by kernel_rfl) (by kernel_rfl) _ _ ⟨_, _, _, _, _, _, _, _, rfl, hN⟩
  ·
   cases x
   ·
    cases y
    ·
     cases f
     ·
      cases b
      ·
       refine wpAnyH_ready (rs := [6, 8, 10, 12]) (by kernel_rfl) (by simp) (AllReadyH.cons rfl (fun K hK => ?_) (AllReadyH.cons rfl (fun K hK => ?_) (AllReadyH.cons rfl (fun K hK => ?_) (AllReadyH.cons rfl (fun K hK => ?_) AllReadyH.nil))))
       ·
        try rw [if_pos (by rfl)]
        refine oper_make_full (.tmp 37) (.tmp 37) 40 rfl w.heap.size 89 iu _ 1 Tryz.underlying40 HIU.out.1 HIU.out.2.1 HIU.out.2.2.1 .i64 .i64 _ _ n1 rfl rfl rfl rfl (by rw [HIU.out.2.2.2]; omega) (by unfold maxLen; omega) hI.gr.size ?_
        intro w2 own2 grow2
        simp only [Act.put, LA]
        have hN := hI.setX own2 grow2
        refine hK.out _ _ hN.held (fun _ => ?_)
        exact IH (true, true, false, false, false) _ _ (by decide) (by kernel_rfl) (by kernel_rfl) _ _ ⟨_, _, _, _, _, _, _, _, rfl, hN⟩
       ·
        try rw [if_pos (by rfl)]
        refine oper_make_full (.tmp 39) (.tmp 39) 40 rfl w.heap.size 89 iu _ 1 Tryz.underlying40 HIU.out.1 HIU.out.2.1 HIU.out.2.2.1 .i64 .i64 _ _ n1 rfl rfl rfl rfl (by rw [HIU.out.2.2.2]; omega) (by unfold maxLen; omega) hI.gr.size ?_
        intro w2 own2 grow2
        simp only [Act.put, LA]
        have hN := hI.setY own2 grow2
        refine hK.out _ _ hN.held (fun _ => ?_)
        exact IH (true, false, true, false, false) _ _ (by decide) (by kernel_rfl) (by kernel_rfl) _ _ ⟨_, _, _, _, _, _, _, _, rfl, hN⟩
       ·
        try rw [if_pos (by rfl)]
        refine oper_make_cap (.const (.int .i64 0)) (.tmp 41) 22 rfl 47 ic (cvv cv0) 5 Tryz.underlying22 HIC.out.1 HIC.out.2.1 HIC.out.2.2.1 .i64 .i64 cnt rfl rfl (by rw [HIC.out.2.2.2]; omega) (by unfold maxLen; omega) ?_
        simp only [Act.put, LA]
        have hN := hI.setF (by omega)
        refine hK.out _ _ hN.held (fun _ => ?_)
        exact IH (true, false, false, true, false) _ _ (by decide) (by kernel_rfl) (by kernel_rfl) _ _ ⟨_, _, _, _, _, _, _, _, rfl, hN⟩
       ·
        go_simp
        have hN := hI.setB
        refine hK.out _ _ hN.held (fun _ => ?_)
        exact IH (true, false, false, false, true) _ _ (by decide) (by kernel_rfl) (by kernel_rfl) _ _ ⟨_, _, _, _, _, _, _, _, rfl, hN⟩
      ·
       refine wpAnyH_ready (rs := [6, 8, 10]) (by kernel_rfl) (by simp) (AllReadyH.cons rfl (fun K hK => ?_) (AllReadyH.cons rfl (fun K hK => ?_) (AllReadyH.cons rfl (fun K hK => ?_) AllReadyH.nil)))
       ·
        try rw [if_pos (by rfl)]
        refine oper_make_full (.tmp 37) (.tmp 37) 40 rfl w.heap.size 89 iu _ 1 Tryz.underlying40 HIU.out.1 HIU.out.2.1 HIU.out.2.2.1 .i64 .i64 _ _ n1 rfl rfl rfl rfl (by rw [HIU.out.2.2.2]; omega) (by unfold maxLen; omega) hI.gr.size ?_
        intro w2 own2 grow2
        simp only [Act.put, LA]
        have hN := hI.setX own2 grow2
        refine hK.out _ _ hN.held (fun _ => ?_)
        exact IH (true, true, false, false, true) _ _ (by decide) (by kernel_rfl) (by kernel_rfl) _ _ ⟨_, _, _, _, _, _, _, _, rfl, hN⟩
       ·
        try rw [if_pos (by rfl)]
        refine oper_make_full (.tmp 39) (.tmp 39) 40 rfl w.heap.size 89 iu _ 1 Tryz.underlying40 HIU.out.1 HIU.out.2.1 HIU.out.2.2.1 .i64 .i64 _ _ n1 rfl rfl rfl rfl (by rw [HIU.out.2.2.2]; omega) (by unfold maxLen; omega) hI.gr.size ?_
        intro w2 own2 grow2
        simp only [Act.put, LA]
        have hN := hI.setY own2 grow2
        refine hK.out _ _ hN.held (fun _ => ?_)
        exact IH (true, false, true, false, true) _ _ (by decide) (by kernel_rfl) (by kernel_rfl) _ _ ⟨_, _, _, _, _, _, _, _, rfl, hN⟩
       ·
        try rw [if_pos (by rfl)]
        refine oper_make_cap (.const (.int .i64 0)) (.tmp 41) 22 rfl 47 ic (cvv cv0) 5 Tryz.underlying22 HIC.out.1 HIC.out.2.1 HIC.out.2.2.1 .i64 .i64 cnt rfl rfl (by rw [HIC.out.2.2.2]; omega) (by unfold maxLen; omega) ?_
        simp only [Act.put, LA]
        have hN := hI.setF (by omega)
        refine hK.out _ _ hN.held (fun _ => ?_)
        exact IH (true, false, false, true, true) _ _ (by decide) (by kernel_rfl) (by kernel_rfl) _ _ ⟨_, _, _, _, _, _, _, _, rfl, hN⟩
     ·
      cases b
      ·
       refine wpAnyH_ready (rs := [6, 8, 12]) (by kernel_rfl) (by simp) (AllReadyH.cons rfl (fun K hK => ?_) (AllReadyH.cons rfl (fun K hK => ?_) (AllReadyH.cons rfl (fun K hK => ?_) AllReadyH.nil)))
       ·
        try rw [if_pos (by rfl)]
        refine oper_make_full (.tmp 37) (.tmp 37) 40 rfl w.heap.size 89 iu _ 1 Tryz.underlying40 HIU.out.1 HIU.out.2.1 HIU.out.2.2.1 .i64 .i64 _ _ n1 rfl rfl rfl rfl (by rw [HIU.out.2.2.2]; omega) (by unfold maxLen; omega) hI.gr.size ?_
        intro w2 own2 grow2
        simp only [Act.put, LA]
        have hN := hI.setX own2 grow2
        refine hK.out _ _ hN.held (fun _ => ?_)
        exact IH (true, true, false, true, false) _ _ (by decide) (by kernel_rfl) (by kernel_rfl) _ _ ⟨_, _, _, _, _, _, _, _, rfl, hN⟩
       ·
        try rw [if_pos (by rfl)]
        refine oper_make_full (.tmp 39) (.tmp 39) 40 rfl w.heap.size 89 iu _ 1 Tryz.underlying40 HIU.out.1 HIU.out.2.1 HIU.out.2.2.1 .i64 .i64 _ _ n1 rfl rfl rfl rfl (by rw [HIU.out.2.2.2]; omega) (by unfold maxLen; omega) hI.gr.size ?_
        intro w2 own2 grow2
        simp only [Act.put, LA]
        have hN := hI.setY own2 grow2
        refine hK.out _ _ hN.held (fun _ => ?_)
        exact IH (true, false, true, true, false) _ _ (by decide) (by kernel_rfl) (by kernel_rfl) _ _ ⟨_, _, _, _, _, _, _, _, rfl, hN⟩
       ·
        go_simp
        have hN := hI.setB
        refine hK.out _ _ hN.held (fun _ => ?_)
        exact IH (true, false, false, true, true) _ _ (by decide) (by kernel_rfl) (by kernel_rfl) _ _ ⟨_, _, _, _, _, _, _, _, rfl, hN⟩
      ·
       refine wpAnyH_ready (rs := [6, 8]) (by kernel_rfl) (by simp) (AllReadyH.cons rfl (fun K hK => ?_) (AllReadyH.cons rfl (fun K hK => ?_) AllReadyH.nil))
       ·
        try rw [if_pos (by rfl)]
        refine oper_make_full (.tmp 37) (.tmp 37) 40 rfl w.heap.size 89 iu _ 1 Tryz.underlying40 HIU.out.1 HIU.out.2.1 HIU.out.2.2.1 .i64 .i64 _ _ n1 rfl rfl rfl rfl (by rw [HIU.out.2.2.2]; omega) (by unfold maxLen; omega) hI.gr.size ?_
        intro w2 own2 grow2
        simp only [Act.put, LA]
        have hN := hI.setX own2 grow2
        refine hK.out _ _ hN.held (fun _ => ?_)
        exact IH (true, true, false, true, true) _ _ (by decide) (by kernel_rfl) (by kernel_rfl) _ _ ⟨_, _, _, _, _, _, _, _, rfl, hN⟩
       ·
        try rw [if_pos (by rfl)]
        refine oper_make_full (.tmp 39) (.tmp 39) 40 rfl w.heap.size 89 iu _ 1 Tryz.underlying40 HIU.out.1 HIU.out.2.1 HIU.out.2.2.1 .i64 .i64 _ _ n1 rfl rfl rfl rfl (by rw [HIU.out.2.2.2]; omega) (by unfold maxLen; omega) hI.gr.size ?_
        intro w2 own2 grow2
        simp only [Act.put, LA]
        have hN := hI.setY own2 grow2
        refine hK.out _ _ hN.held (fun _ => ?_)
        exact IH (true, false, true, true, true) _ _ (by decide) (by kernel_rfl) (by kernel_rfl) _ _ ⟨_, _, _, _, _, _, _, _, rfl, hN⟩
    ·
     cases f
     ·
      cases b
      ·
       refine wpAnyH_ready (rs := [6, 10, 12]) (by kernel_rfl) (by simp) (AllReadyH.cons rfl (fun K hK => ?_) (AllReadyH.cons rfl (fun K hK => ?_) (AllReadyH.cons rfl (fun K hK => ?_) AllReadyH.nil)))
       ·
        try rw [if_pos (by rfl)]
        refine oper_make_full (.tmp 37) (.tmp 37) 40 rfl w.heap.size 89 iu _ 1 Tryz.underlying40 HIU.out.1 HIU.out.2.1 HIU.out.2.2.1 .i64 .i64 _ _ n1 rfl rfl rfl rfl (by rw [HIU.out.2.2.2]; omega) (by unfold maxLen; omega) hI.gr.size ?_
        intro w2 own2 grow2
        simp only [Act.put, LA]
        have hN := hI.setX own2 grow2
        refine hK.out _ _ hN.held (fun _ => ?_)
        exact IH (true, true, true, false, false) _ _ (by decide) (by kernel_rfl) (by kernel_rfl) _ _ ⟨_, _, _, _, _, _, _, _, rfl, hN⟩
       ·
        try rw [if_pos (by rfl)]
        refine oper_make_cap (.const (.int .i64 0)) (.tmp 41) 22 rfl 47 ic (cvv cv0) 5 Tryz.underlying22 HIC.out.1 HIC.out.2.1 HIC.out.2.2.1 .i64 .i64 cnt rfl rfl (by rw [HIC.out.2.2.2]; omega) (by unfold maxLen; omega) ?_
        simp only [Act.put, LA]
        have hN := hI.setF (by omega)
        refine hK.out _ _ hN.held (fun _ => ?_)
        exact IH (true, false, true, true, false) _ _ (by decide) (by kernel_rfl) (by kernel_rfl) _ _ ⟨_, _, _, _, _, _, _, _, rfl, hN⟩
       ·
        go_simp
        have hN := hI.setB
        refine hK.out _ _ hN.held (fun _ => ?_)
        exact IH (true, false, true, false, true) _ _ (by decide) (by kernel_rfl) (by kernel_rfl) _ _ ⟨_, _, _, _, _, _, _, _, rfl, hN⟩
      ·
       refine wpAnyH_ready (rs := [6, 10]) (by kernel_rfl) (by simp) (AllReadyH.cons rfl (fun K hK => ?_) (AllReadyH.cons rfl (fun K hK => ?_) AllReadyH.nil))
       ·
        try rw [if_pos (by rfl)]
        refine oper_make_full (.tmp 37) (.tmp 37) 40 rfl w.heap.size 89 iu _ 1 Tryz.underlying40 HIU.out.1 HIU.out.2.1 HIU.out.2.2.1 .i64 .i64 _ _ n1 rfl rfl rfl rfl (by rw [HIU.out.2.2.2]; omega) (by unfold maxLen; omega) hI.gr.size ?_
        intro w2 own2 grow2
        simp only [Act.put, LA]
        have hN := hI.setX own2 grow2
        refine hK.out _ _ hN.held (fun _ => ?_)
        exact IH (true, true, true, false, true) _ _ (by decide) (by kernel_rfl) (by kernel_rfl) _ _ ⟨_, _, _, _, _, _, _, _, rfl, hN⟩
       ·
        try rw [if_pos (by rfl)]
        refine oper_make_cap (.const (.int .i64 0)) (.tmp 41) 22 rfl 47 ic (cvv cv0) 5 Tryz.underlying22 HIC.out.1 HIC.out.2.1 HIC.out.2.2.1 .i64 .i64 cnt rfl rfl (by rw [HIC.out.2.2.2]; omega) (by unfold maxLen; omega) ?_
        simp only [Act.put, LA]
        have hN := hI.setF (by omega)
        refine hK.out _ _ hN.held (fun _ => ?_)
        exact IH (true, false, true, true, true) _ _ (by decide) (by kernel_rfl) (by kernel_rfl) _ _ ⟨_, _, _, _, _, _, _, _, rfl, hN⟩
     ·
      cases b
      ·
       refine wpAnyH_ready (rs := [6, 12]) (by kernel_rfl) (by simp) (AllReadyH.cons rfl (fun K hK => ?_) (AllReadyH.cons rfl (fun K hK => ?_) AllReadyH.nil))
       ·
        try rw [if_pos (by rfl)]
        refine oper_make_full (.tmp 37) (.tmp 37) 40 rfl w.heap.size 89 iu _ 1 Tryz.underlying40 HIU.out.1 HIU.out.2.1 HIU.out.2.2.1 .i64 .i64 _ _ n1 rfl rfl rfl rfl (by rw [HIU.out.2.2.2]; omega) (by unfold maxLen; omega) hI.gr.size ?_
        intro w2 own2 grow2
        simp only [Act.put, LA]
        have hN := hI.setX own2 grow2
        refine hK.out _ _ hN.held (fun _ => ?_)
        refine wpAnyH_take (i := 11) (v := .agg #[.slice A n c, .bool s, .slice B hs.length d, .slice (some ⟨W.heap.size, 0, none⟩) n1 n1, .slice (some ⟨gy, 0, none⟩) n1 n1, .slice (some ⟨gf, 0, none⟩) 0 cnt]) rfl (by kernel_rfl) (by kernel_rfl) (by kernel_rfl) (fun _ _ _ h => h) (Or.inl ⟨by rfl, ?_⟩) hN.held ?_
        ·
         intro w' s1_
         go_simp
         try (first | done | with_reducible rfl | rfl)
        simp only [Act.put, LA]
        exact IH (true, true, true, true, false) _ _ (by decide) (by kernel_rfl) (by kernel_rfl) _ _ ⟨_, _, _, _, _, _, _, _, rfl, hN⟩
       ·
        go_simp
        have hN := hI.setB
        refine hK.out _ _ hN.held (fun _ => ?_)
        exact IH (true, false, true, true, true) _ _ (by decide) (by kernel_rfl) (by kernel_rfl) _ _ ⟨_, _, _, _, _, _, _, _, rfl, hN⟩
      ·
       refine wpAnyH_ready (rs := [6]) (by kernel_rfl) (by simp) (AllReadyH.cons rfl (fun K hK => ?_) AllReadyH.nil)
       try rw [if_pos (by rfl)]
       refine oper_make_full (.tmp 37) (.tmp 37) 40 rfl w.heap.size 89 iu _ 1 Tryz.underlying40 HIU.out.1 HIU.out.2.1 HIU.out.2.2.1 .i64 .i64 _ _ n1 rfl rfl rfl rfl (by rw [HIU.out.2.2.2]; omega) (by unfold maxLen; omega) hI.gr.size ?_
       intro w2 own2 grow2
       simp only [Act.put, LA]
       have hN := hI.setX own2 grow2
       refine hK.out _ _ hN.held (fun _ => ?_)
       refine wpAnyH_take (i := 11) (v := .agg #[.slice A n c, .bool s, .slice B hs.length d, .slice (some ⟨W.heap.size, 0, none⟩) n1 n1, .slice (some ⟨gy, 0, none⟩) n1 n1, .slice (some ⟨gf, 0, none⟩) 0 cnt]) rfl (by kernel_rfl) (by kernel_rfl) (by kernel_rfl) (fun _ _ _ h => h) (Or.inl ⟨by rfl, ?_⟩) hN.held ?_
       ·
        intro w' s1_
        go_simp
        try (first | done | with_reducible rfl | rfl)
       simp only [Act.put, LA]
       exact IH (true, true, true, true, true) _ _ (by decide) (by kernel_rfl) (by kernel_rfl) _ _ ⟨_, _, _, _, _, _, _, _, rfl, hN⟩
   ·
    cases y
    ·
     cases f
     ·
      cases b
      ·
       refine wpAnyH_ready (rs := [8, 10, 12]) (by kernel_rfl) (by simp) (AllReadyH.cons rfl (fun K hK => ?_) (AllReadyH.cons rfl (fun K hK => ?_) (AllReadyH.cons rfl (fun K hK => ?_) AllReadyH.nil)))
       ·
        try rw [if_pos (by rfl)]
        refine oper_make_full (.tmp 39) (.tmp 39) 40 rfl w.heap.size 89 iu _ 1 Tryz.underlying40 HIU.out.1 HIU.out.2.1 HIU.out.2.2.1 .i64 .i64 _ _ n1 rfl rfl rfl rfl (by rw [HIU.out.2.2.2]; omega) (by unfold maxLen; omega) hI.gr.size ?_
        intro w2 own2 grow2
        simp only [Act.put, LA]
        have hN := hI.setY own2 grow2
        refine hK.out _ _ hN.held (fun _ => ?_)
        exact IH (true, true, true, false, false) _ _ (by decide) (by kernel_rfl) (by kernel_rfl) _ _ ⟨_, _, _, _, _, _, _, _, rfl, hN⟩
       ·
        try rw [if_pos (by rfl)]
        refine oper_make_cap (.const (.int .i64 0)) (.tmp 41) 22 rfl 47 ic (cvv cv0) 5 Tryz.underlying22 HIC.out.1 HIC.out.2.1 HIC.out.2.2.1 .i64 .i64 cnt rfl rfl (by rw [HIC.out.2.2.2]; omega) (by unfold maxLen; omega) ?_
        simp only [Act.put, LA]
        have hN := hI.setF (by omega)
        refine hK.out _ _ hN.held (fun _ => ?_)
        exact IH (true, true, false, true, false) _ _ (by decide) (by kernel_rfl) (by kernel_rfl) _ _ ⟨_, _, _, _, _, _, _, _, rfl, hN⟩
       ·
        go_simp
        have hN := hI.setB
        refine hK.out _ _ hN.held (fun _ => ?_)
        exact IH (true, true, false, false, true) _ _ (by decide) (by kernel_rfl) (by kernel_rfl) _ _ ⟨_, _, _, _, _, _, _, _, rfl, hN⟩
      ·
       refine wpAnyH_ready (rs := [8, 10]) (by kernel_rfl) (by simp) (AllReadyH.cons rfl (fun K hK => ?_) (AllReadyH.cons rfl (fun K hK => ?_) AllReadyH.nil))
       ·
        try rw [if_pos (by rfl)]
        refine oper_make_full (.tmp 39) (.tmp 39) 40 rfl w.heap.size 89 iu _ 1 Tryz.underlying40 HIU.out.1 HIU.out.2.1 HIU.out.2.2.1 .i64 .i64 _ _ n1 rfl rfl rfl rfl (by rw [HIU.out.2.2.2]; omega) (by unfold maxLen; omega) hI.gr.size ?_
        intro w2 own2 grow2
        simp only [Act.put, LA]
        have hN := hI.setY own2 grow2
        refine hK.out _ _ hN.held (fun _ => ?_)
        exact IH (true, true, true, false, true) _ _ (by decide) (by kernel_rfl) (by kernel_rfl) _ _ ⟨_, _, _, _, _, _, _, _, rfl, hN⟩
       ·
        try rw [if_pos (by rfl)]
        refine oper_make_cap (.const (.int .i64 0)) (.tmp 41) 22 rfl 47 ic (cvv cv0) 5 Tryz.underlying22 HIC.out.1 HIC.out.2.1 HIC.out.2.2.1 .i64 .i64 cnt rfl rfl (by rw [HIC.out.2.2.2]; omega) (by unfold maxLen; omega) ?_
        simp only [Act.put, LA]
        have hN := hI.setF (by omega)
        refine hK.out _ _ hN.held (fun _ => ?_)
        exact IH (true, true, false, true, true) _ _ (by decide) (by kernel_rfl) (by kernel_rfl) _ _ ⟨_, _, _, _, _, _, _, _, rfl, hN⟩
     ·
      cases b
      ·
       refine wpAnyH_ready (rs := [8, 12]) (by kernel_rfl) (by simp) (AllReadyH.cons rfl (fun K hK => ?_) (AllReadyH.cons rfl (fun K hK => ?_) AllReadyH.nil))
       ·
        try rw [if_pos (by rfl)]
        refine oper_make_full (.tmp 39) (.tmp 39) 40 rfl w.heap.size 89 iu _ 1 Tryz.underlying40 HIU.out.1 HIU.out.2.1 HIU.out.2.2.1 .i64 .i64 _ _ n1 rfl rfl rfl rfl (by rw [HIU.out.2.2.2]; omega) (by unfold maxLen; omega) hI.gr.size ?_
        intro w2 own2 grow2
        simp only [Act.put, LA]
        have hN := hI.setY own2 grow2
        refine hK.out _ _ hN.held (fun _ => ?_)
        refine wpAnyH_take (i := 11) (v := .agg #[.slice A n c, .bool s, .slice B hs.length d, .slice (some ⟨gx, 0, none⟩) n1 n1, .slice (some ⟨W.heap.size, 0, none⟩) n1 n1, .slice (some ⟨gf, 0, none⟩) 0 cnt]) rfl (by kernel_rfl) (by kernel_rfl) (by kernel_rfl) (fun _ _ _ h => h) (Or.inl ⟨by rfl, ?_⟩) hN.held ?_
        ·
         intro w' s1_
         go_simp
         try (first | done | with_reducible rfl | rfl)
        simp only [Act.put, LA]
        exact IH (true, true, true, true, false) _ _ (by decide) (by kernel_rfl) (by kernel_rfl) _ _ ⟨_, _, _, _, _, _, _, _, rfl, hN⟩
       ·
        go_simp
        have hN := hI.setB
        refine hK.out _ _ hN.held (fun _ => ?_)
        exact IH (true, true, false, true, true) _ _ (by decide) (by kernel_rfl) (by kernel_rfl) _ _ ⟨_, _, _, _, _, _, _, _, rfl, hN⟩
      ·
       refine wpAnyH_ready (rs := [8]) (by kernel_rfl) (by simp) (AllReadyH.cons rfl (fun K hK => ?_) AllReadyH.nil)
       try rw [if_pos (by rfl)]
       refine oper_make_full (.tmp 39) (.tmp 39) 40 rfl w.heap.size 89 iu _ 1 Tryz.underlying40 HIU.out.1 HIU.out.2.1 HIU.out.2.2.1 .i64 .i64 _ _ n1 rfl rfl rfl rfl (by rw [HIU.out.2.2.2]; omega) (by unfold maxLen; omega) hI.gr.size ?_
       intro w2 own2 grow2
       simp only [Act.put, LA]
       have hN := hI.setY own2 grow2
       refine hK.out _ _ hN.held (fun _ => ?_)
       refine wpAnyH_take (i := 11) (v := .agg #[.slice A n c, .bool s, .slice B hs.length d, .slice (some ⟨gx, 0, none⟩) n1 n1, .slice (some ⟨W.heap.size, 0, none⟩) n1 n1, .slice (some ⟨gf, 0, none⟩) 0 cnt]) rfl (by kernel_rfl) (by kernel_rfl) (by kernel_rfl) (fun _ _ _ h => h) (Or.inl ⟨by rfl, ?_⟩) hN.held ?_
       ·
        intro w' s1_
        go_simp
        try (first | done | with_reducible rfl | rfl)
       simp only [Act.put, LA]
       exact IH (true, true, true, true, true) _ _ (by decide) (by kernel_rfl) (by kernel_rfl) _ _ ⟨_, _, _, _, _, _, _, _, rfl, hN⟩
    ·
     cases f
     ·
      cases b
      ·
       refine wpAnyH_ready (rs := [10, 12]) (by kernel_rfl) (by simp) (AllReadyH.cons rfl (fun K hK => ?_) (AllReadyH.cons rfl (fun K hK => ?_) AllReadyH.nil))
       ·
        try rw [if_pos (by rfl)]
        refine oper_make_cap (.const (.int .i64 0)) (.tmp 41) 22 rfl 47 ic (cvv cv0) 5 Tryz.underlying22 HIC.out.1 HIC.out.2.1 HIC.out.2.2.1 .i64 .i64 cnt rfl rfl (by rw [HIC.out.2.2.2]; omega) (by unfold maxLen; omega) ?_
        simp only [Act.put, LA]
        have hN := hI.setF (by omega)
        refine hK.out _ _ hN.held (fun _ => ?_)
        refine wpAnyH_take (i := 11) (v := .agg #[.slice A n c, .bool s, .slice B hs.length d, .slice (some ⟨gx, 0, none⟩) n1 n1, .slice (some ⟨gy, 0, none⟩) n1 n1, .slice (some ⟨W.heap.size, 0, none⟩) 0 cnt]) rfl (by kernel_rfl) (by kernel_rfl) (by kernel_rfl) (fun _ _ _ h => h) (Or.inl ⟨by rfl, ?_⟩) hN.held ?_
        ·
         intro w' s1_
         go_simp
         try (first | done | with_reducible rfl | rfl)
        simp only [Act.put, LA]
        exact IH (true, true, true, true, false) _ _ (by decide) (by kernel_rfl) (by kernel_rfl) _ _ ⟨_, _, _, _, _, _, _, _, rfl, hN⟩
       ·
        go_simp
        have hN := hI.setB
        refine hK.out _ _ hN.held (fun _ => ?_)
        exact IH (true, true, true, false, true) _ _ (by decide) (by kernel_rfl) (by kernel_rfl) _ _ ⟨_, _, _, _, _, _, _, _, rfl, hN⟩
      ·
       refine wpAnyH_ready (rs := [10]) (by kernel_rfl) (by simp) (AllReadyH.cons rfl (fun K hK => ?_) AllReadyH.nil)
       try rw [if_pos (by rfl)]
       refine oper_make_cap (.const (.int .i64 0)) (.tmp 41) 22 rfl 47 ic (cvv cv0) 5 Tryz.underlying22 HIC.out.1 HIC.out.2.1 HIC.out.2.2.1 .i64 .i64 cnt rfl rfl (by rw [HIC.out.2.2.2]; omega) (by unfold maxLen; omega) ?_
       simp only [Act.put, LA]
       have hN := hI.setF (by omega)
       refine hK.out _ _ hN.held (fun _ => ?_)
       refine wpAnyH_take (i := 11) (v := .agg #[.slice A n c, .bool s, .slice B hs.length d, .slice (some ⟨gx, 0, none⟩) n1 n1, .slice (some ⟨gy, 0, none⟩) n1 n1, .slice (some ⟨W.heap.size, 0, none⟩) 0 cnt]) rfl (by kernel_rfl) (by kernel_rfl) (by kernel_rfl) (fun _ _ _ h => h) (Or.inl ⟨by rfl, ?_⟩) hN.held ?_
       ·
        intro w' s1_
        go_simp
        try (first | done | with_reducible rfl | rfl)
       simp only [Act.put, LA]
       exact IH (true, true, true, true, true) _ _ (by decide) (by kernel_rfl) (by kernel_rfl) _ _ ⟨_, _, _, _, _, _, _, _, rfl, hN⟩
     ·
      cases b
      ·
       refine wpAnyH_ready (rs := [12]) (by kernel_rfl) (by simp) (AllReadyH.cons rfl (fun K hK => ?_) AllReadyH.nil)
       go_simp
       have hN := hI.setB
       refine hK.out _ _ hN.held (fun _ => ?_)
       exact IH (true, true, true, true, true) _ _ (by decide) (by kernel_rfl) (by kernel_rfl) _ _ ⟨_, _, _, _, _, _, _, _, rfl, hN⟩
      ·
       refine wpAnyH_ready (rs := [13]) (by kernel_rfl) (by simp) (AllReadyH.cons rfl (fun K hK => ?_) AllReadyH.nil)
       obtain ⟨hb1, hbx⟩ := hI.bb rfl
       have k0 : W.cell? ⟨gb, 0, none⟩ = some (.slice none 0 0) := by rw [cell_of_row W gb _ _ _ _ hbx]; rfl
       have k1 : W.cell? ⟨gb, 1, none⟩ = some (.bool false) := by rw [cell_of_row W gb _ _ _ _ hbx]; rfl
       have k2 : W.cell? ⟨gb, 2, none⟩ = some (.slice none 0 0) := by rw [cell_of_row W gb _ _ _ _ hbx]; rfl
       have k3 : W.cell? ⟨gb, 3, none⟩ = some (.slice none 0 0) := by rw [cell_of_row W gb _ _ _ _ hbx]; rfl
       have k4 : W.cell? ⟨gb, 4, none⟩ = some (.slice none 0 0) := by rw [cell_of_row W gb _ _ _ _ hbx]; rfl
       have k5 : W.cell? ⟨gb, 5, none⟩ = some (.slice none 0 0) := by rw [cell_of_row W gb _ _ _ _ hbx]; rfl
       have l0 := frozen_of_row W gb 0 _ _ hbx
       have l1 := frozen_of_row W gb 1 _ _ hbx
       have l2 := frozen_of_row W gb 2 _ _ hbx
       have l3 := frozen_of_row W gb 3 _ _ hbx
       have l4 := frozen_of_row W gb 4 _ _ hbx
       have l5 := frozen_of_row W gb 5 _ _ hbx
       have HHI := Lib.hid hI
       have HBX := Lib.hid hbx
       have HB1_ := Lib.hid hb1
       clear hI hbx hb1 IH
       go_simp
       obtain ⟨W1, hW1⟩ : ∃ Z : World, Z = ((((((W.setCell ⟨gb, 0, none⟩ (.slice A n c)).setCell ⟨gb, 1, none⟩ (.bool s)).setCell ⟨gb, 2, none⟩ (.slice B hs.length d)).setCell ⟨gb, 3, none⟩ (.slice (some ⟨gx, 0, none⟩) n1 n1)).setCell ⟨gb, 4, none⟩ (.slice (some ⟨gy, 0, none⟩) n1 n1)).setCell ⟨gb, 5, none⟩ (.slice (some ⟨gf, 0, none⟩) 0 cnt)) := ⟨_, rfl⟩
       have hg : W.grownBy W1 (some gb) := by rw [hW1]; exact gb_two (gb_two (gb_two (gb_two (gb_two (setC_one _ _ _ _) (setC_one _ _ _ _)) (setC_one _ _ _ _)) (setC_one _ _ _ _)) (setC_one _ _ _ _)) (setC_one _ _ _ _)
       have hbx1 : W1.heap[gb]? = some (.cells #[.slice A n c, .bool s, .slice B hs.length d, .slice (some ⟨gx, 0, none⟩) n1 n1, .slice (some ⟨gy, 0, none⟩) n1 n1, .slice (some ⟨gf, 0, none⟩) 0 cnt] 75) := by
        rw [hW1]
        exact heap_setCell_same _ gb 5 _ _ _ (heap_setCell_same _ gb 4 _ _ _ (heap_setCell_same _ gb 3 _ _ _ (heap_setCell_same _ gb 2 _ _ _ (heap_setCell_same _ gb 1 _ _ _ (heap_setCell_same W gb 0 _ _ _ HBX.out)))))
       rw [← hW1]
       have hF := HHI.out.fi HN.out hn0 HNS.out hg hbx1
       have hq := (hg.block _ HHI.out.q.1 (fun e => by have := Option.some.inj e; have := HB1_.out; omega)).trans HHI.out.q.2
       have HF := Lib.hid hF
       have HQ_ := Lib.hid hq
       refine hK.out _ _ (one_cell hq) (fun _ => ?_)
       clear hK K hF hq hg hbx1 hW1
       refine wpAnyH_done (by kernel_rfl) ?_ _
       refine NoPanic.normal ?_
       try go_wp2_with fail
       go_meet
       exact ⟨gb, gx, gy, gf, B, d, hs, rfl, HF.out.1, HF.out.2.1, HF.out.2.2.1, HF.out.2.2.2.1, HF.out.2.2.2.2, HQ_.out, Nat.le_of_lt HB1_.out, (HHI.out.xx rfl).base, (HHI.out.yy rfl).base⟩
  -- the region's end
 case rest =>
  obtain ⟨gb, gx, gy, gf, B, d, hs, rfl, h0, hc, hv, hFi, hbl, hq, hgb⟩ := hcut
  obtain ⟨p, hp⟩ : ∃ p, n = p + 1 := ⟨n - 1, by omega⟩
  obtain ⟨b0, off, eA, hb0, hcl⟩ := (hNs.below hbl).at_ (by have := HN.out; omega)
  obtain ⟨c1_, c2_, c3_, c4_, c5_⟩ := hcl p (by have := HN.out; omega)
  have q0 := one_cell hq
  rw [eA] at q0
  have ex : at_ l p = x := by rw [HX.out, hp, Nat.add_sub_cancel]
  rw [ex] at c1_ c2_ c3_ c4_ c5_
  have i1 : (0 : Int) ≤ (n : Int) - 1 := by omega
  have i2 : (n : Int) - 1 < (n : Int) := by omega
  have i3 : ((n : Int) - 1).toNat = p := by omega
  have i4 : n - 1 = p := by omega
  have hden : norm (dens l) x = den l n := by rw [← ex, ← den_loose HLL.out (i := p) (by have := HN.out; omega), hp]
  have hhs : hs.length ≤ 50 := len_p2 (s := false) ⟨hc, fun e => by cases e⟩ (by unfold ival; simpa using hv) (by omega)
  have HVI := Lib.hid (fvisit_rec ⟨gb, gx, gy, n1, A, c, l, B, d, hs⟩ w.heap.size HLL.out h0 hc (by show hs.length ≤ 1000; omega) (by show n1 ≤ 1000; exact hn19) m x _ [] _ _ wc hm9 HM.out HFX.out (by show m / 32 < n1; have := HN1.out; omega) (by rw [hden, HCC.out]; simp; omega) hbl.size hFi)
  have HF := Lib.hid hFi
  have HBL := Lib.hid hbl
  have HV := Lib.hid hv
  have HP := Lib.hid hp
  have HDEN := Lib.hid hden
  have HEX := Lib.hid ex
  have HGB := Lib.hid hgb
  clear hgb hFi hbl hq hcl hv hp hden ex h0 hc e1 e2 g3 hNs
  go_wp2_with (first
   | (go_at_call 42; go_loud (refine HVI.out.mono ?_; rintro e w8 ⟨v8, M, xs8, ys8, rfl, f8, mm8, -, -, vb8, ky8⟩; rw [List.nil_append] at f8; rw [HDEN.out] at mm8; have hML : M.length = cnt := (by have h1 := congrArg List.length mm8; rw [List.length_map, listT_len, HCC.out] at h1; exact h1); obtain ⟨blk, c7, hv8, r1, r2, r3, r4, r5⟩ := found_row f8.f hML hc0; subst hv8; have q5 := f8.cells.1.2.2.2.2.2; have hbg : blk ≠ gb := (fun e => f8.ne.2.2.2.1 (congrArg some e)); have HSO := Lib.hid (sort_found blk cnt c7 M _ hML hc0 (by omega) r1 r2 r3 r4 r5 (fun v hv => ⟨(f8.ok v hv).1, (f8.ok v hv).2.1, (f8.ok v hv).2.2 blk (.inr (.inr (.inr rfl)))⟩)); have F8 := Lib.hid f8; have MM8 := Lib.hid mm8; have K8 := Lib.hid ky8; have HML := Lib.hid hML; have HBG := Lib.hid hbg; have hc79 : c7 ≤ 9223372036854775807 := (by unfold maxLen at r2; omega); clear f8 mm8 vb8 ky8 hML r4 r5 hbg))
   | (go_at_call 43; go_loud (refine HSO.out.mono ?_; rintro e w9 ⟨rfl, L, hp9, hs9, hc9, hr9, hg9⟩; have q6 := one_cell5 F8.out HBG.out hg9; have HP9 := Lib.hid hp9; have HS9 := Lib.hid hs9; have HC9 := Lib.hid hc9; have HR9 := Lib.hid hr9; have HG9 := Lib.hid hg9; clear hp9 hs9 hc9 hr9 hg9 q5)))
  go_ret2
  have hL : L.length = cnt := by rw [HP9.out.length_eq]; exact HML.out
  have hw8 : Below w.heap.size w w8 := HBL.out.trans ((K8.out.to (B := w.heap.size) HBL.out.size (fun q hq => fi_base HF.out hq ⟨HGB.out.1, HGB.out.2.1, HGB.out.2.2⟩)).mono (Nat.le_refl _))
  refine ⟨hw8.grown HG9.out hw8.size (fun q e => by cases e; exact (F8.out.f.lt _ rfl).1), .inr ⟨by rw [HN.out, HCC.out]; exact hcm, some ⟨blk, 0, none⟩, c7, L, by rw [hL]; rfl, HC9.out, HR9.out, ?_⟩⟩
  refine sorted_cells (corn_spec HLL.out).1 ?_ HP9.out HS9.out
  rw [MM8.out]
  unfold cornL corX
  have hlv : (at_ l (l.length - 1)).lv.toNat - 1 = m := by rw [HN.out, ← HX.out, HM.out]; omega
  rw [hlv, HN.out, val_zero, Nat.zero_div, HV.out]
  simp
theorem list_any (A : Option Addr) (c n : Nat) (l : List Nd) (most : Int) (w : World) (h : Ns w A c l) (hn : l.length = n) (hl : looseB l = true) (hn9 : n ≤ 900000) (h1 : -9223372036854775808 ≤ most) (h2 : most ≤ 800000) :
  Calls Tryz.prog 15 #[.agg #[.slice A n c], .int .i64 most] w (RetLi l most w) := by
 by_cases hc : most < (countT (den l n) : Int)
 ·
  exact list_many A c n l most w h hn hl hn9 h1 (by omega) hc
 ·
  rcases Nat.eq_zero_or_pos (countT (den l n)) with h0 | h0
  ·
   exact list_none A c n l most w h hn hl hn9 (by omega) (by omega) h0
  ·
   exact list_some A c n l most w h hn hl hn9 h2 _ rfl h0 (by omega)
end Go.Proofs.YtmfncapgikobkaaGreat
