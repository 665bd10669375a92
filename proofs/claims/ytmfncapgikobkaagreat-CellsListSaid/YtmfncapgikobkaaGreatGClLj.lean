/-
  cells.nodes: the nodes of the quad of cells that a root has.
  cells: what List makes ahead of the finder, in whatever order.
-/
import Derived.Test.YtmfncapgikobkaaGreatGClNe
import Derived.Test.YtmfncapgikobkaaGreatGClPb
import Derived.Test.YtmfncapgikobkaaGreatGClWi

namespace Go.Proofs.YtmfncapgikobkaaGreat
set_option maxRecDepth 100000
set_option linter.unusedVariables false
set_option linter.unusedSimpArgs false
open Go.RowKit Nds Num Go.Shelf
def CvN (v : Cv) : Prop := v.sx = false ∧ v.sy = false
theorem cfQ_neg {v u : Cv} (hv : CvN v) (hu : CvN u) : cfQ v u < 0 ↔ zq (val v.xs) (val v.ys) < zq (val u.xs) (val u.ys) := by
 rw [← ahead_iff]
 unfold cfQ aheadZ
 rw [hv.1, hv.2, hu.1, hu.2]
 split
 ·
  rw [ordI_neg]; unfold ival; simp only [Bool.false_eq_true, if_false]; omega
 ·
  rw [ordI_neg]; unfold ival; simp only [Bool.false_eq_true, if_false]; omega
def shC (h : Int) (c : Cl) : Cl := ⟨c.x + h, c.y + h, c.s⟩
structure InC (W : World) (gi : Nat) (h : Int) (v u : Cv) : Prop where
 us : CvU W u
 rt : CvR u
 nn : CvN u
 off : Off gi u
 xx : ival u.sx u.xs = ival v.sx v.xs + h
 yy : ival u.sy u.ys = ival v.sy v.ys + h
 stt : u.st = v.st
theorem len_in {s : Bool} {xs : List Nat} {n : Nat} {z : Int} (hc : CanonI s xs) (hv : ival s xs = z) (h0 : 0 ≤ z) (h1 : z < p2 n) (hn : n ≤ 1330) : xs.length ≤ 50 := by
 refine len_ival hc hv 50 ?_
 obtain ⟨M, hM⟩ : ∃ M, M = 50 := ⟨_, rfl⟩
 have h2 : (p2 n).natAbs < 4294967296 ^ M := by
  unfold p2
  rw [show ((2 : Int) ^ n).natAbs = 2 ^ n by rw [Int.natAbs_pow]; rfl, show (4294967296 : Nat) = 2 ^ 32 by decide, ← Nat.pow_mul]
  exact Nat.pow_lt_pow_right (by decide) (by omega)
 rw [← hM]
 omega
theorem pos_in {s : Bool} {xs : List Nat} (hc : CanonI s xs) (h0 : 0 ≤ ival s xs) : s = false := by
 cases s with
 | false => rfl
 | true =>
  have h1 := hc.2 rfl
  have h2 : val xs ≠ 0 := fun e => h1 (canon_zero hc.1 e)
  unfold ival at h0
  simp only [if_true] at h0
  omega
structure NR (w : World) (gh gi bc : Nat) (s : Bool) (A : Option Addr) (c : Nat) (xs : List Nat) (hh : Int) (n : Nat) (L : List Cv) (x : Cv) (W : World) : Prop where
 b : Below w.heap.size w W
 h : HX W gh s A c xs hh
 own : OwnC W w.heap.size (.slice (some ⟨gi, 0, none⟩) n n) L
 lt : bc < W.heap.size
 cv : CvAt W bc 0 x
 cu : CvU W x
theorem NR.next {w : World} {gh gi bc : Nat} {s : Bool} {A : Option Addr} {c : Nat} {xs : List Nat} {hh : Int} {n : Nat} {L : List Cv} {x : Cv} {W W1 : World} (k : NR w gh gi bc s A c xs hh n L x W) (q : Below W.heap.size W W1) : NR w gh gi bc s A c xs hh n L x W1 :=
 ⟨k.b.trans (q.mono k.b.size), k.h.next q, k.own.kept (gbN q) (own_dec (fun k hk e => by cases e)), Nat.lt_of_lt_of_le k.lt q.size, k.cv.below (q.block _ k.lt), k.cu.below q⟩
theorem NR.row {w : World} {gh gi bc : Nat} {s : Bool} {A : Option Addr} {c : Nat} {xs : List Nat} {hh : Int} {n : Nat} {L : List Cv} {x : Cv} {W : World} (k : NR w gh gi bc s A c xs hh n L x W) (hL : L.length = n) {i : Nat} (hi : i < n) : CvAt W gi (i * 5) (cat L i) ∧ ∀ o, W.frozen? ⟨gi, o, none⟩ = false := by
 obtain ⟨A', c', e1, _, _, _, e5⟩ := k.own.shape
 cases e1
 obtain ⟨g, e, _, _, h1, h2⟩ := e5 _ rfl
 cases e
 exact ⟨h1 i (by omega), h2⟩
theorem cat_set_same {L : List Cv} {i : Nat} (h : i < L.length) (u : Cv) : cat (L.set i u) i = u := by
 unfold cat
 rw [List.getElem?_set, if_pos rfl, if_pos h]
 rfl
theorem cat_set_ne {L : List Cv} {i j : Nat} (h : i ≠ j) (u : Cv) : cat (L.set i u) j = cat L j := by
 unfold cat
 rw [List.getElem?_set, if_neg h]
theorem InC.kept {W W1 : World} {gi : Nat} {h : Int} {v u : Cv} (k : InC W gi h v u) (hk : ∀ q, q < W.heap.size → q ≠ gi → W1.heap[q]? = W.heap[q]?) (hs : W.heap.size ≤ W1.heap.size) : InC W1 gi h v u :=
 ⟨cvU_kept k.us hk hs k.off, k.rt, k.nn, k.off, k.xx, k.yy, k.stt⟩
theorem NR.put {w : World} {gh gi bc : Nat} {s : Bool} {A : Option Addr} {c : Nat} {xs : List Nat} {m n : Nat} {L l : List Cv} {x : Cv} {W : World} (k : NR w gh gi bc s A c xs (p2 m) n L x W) (hL : L.length = n) {i : Nat} (hi : i < n) (hx : x = cat l i)
  (hall : ∀ j, j < i → InC W gi (p2 m) (cat l j) (cat L j)) (hgh : gh ≠ gi) (hgw : w.heap.size ≤ gi) (hm : m + 1 ≤ 1330) (hin : inL x.cl (m + 1) = true)
  {s7 s8 : Bool} {A7 A8 : Option Addr} {c7 c8 : Nat} {r7 r8 : List Nat} (u7 : Us W A7 c7 r7) (k7 : CanonI s7 r7) (v7 : ival s7 r7 = ival x.sx x.xs + p2 m) (u8 : Us W A8 c8 r8) (k8 : CanonI s8 r8) (v8 : ival s8 r8 = ival x.sy x.ys + p2 m) :
  ∃ W' L', W' = (((((W.setCell ⟨gi, i * 5, none⟩ (.bool s7)).setCell ⟨gi, i * 5 + 1, none⟩ (.slice A7 r7.length c7)).setCell ⟨gi, i * 5 + 2, none⟩ (.bool s8)).setCell ⟨gi, i * 5 + 3, none⟩ (.slice A8 r8.length c8)).setCell ⟨gi, i * 5 + 4, none⟩ (.int .u8 x.st)) ∧ L'.length = n ∧
   HX W' gh s A c xs (p2 m) ∧ OwnC W' w.heap.size (.slice (some ⟨gi, 0, none⟩) n n) L' ∧ (∀ j, j < i + 1 → InC W' gi (p2 m) (cat l j) (cat L' j)) ∧ Below w.heap.size w W' ∧ W.heap.size ≤ W'.heap.size := by
 obtain ⟨u, hu⟩ : ∃ u : Cv, u = ⟨s7, A7, c7, r7, s8, A8, c8, r8, x.st⟩ := ⟨_, rfl⟩
 have hg := setC_grown W gi (i * 5) (.bool s7) (.slice A7 r7.length c7) (.bool s8) (.slice A8 r8.length c8) (.int .u8 x.st)
 have hown := k.own.put hL hi u
 rw [hu] at hown
 obtain ⟨W', hW'⟩ : ∃ W', W' = (((((W.setCell ⟨gi, i * 5, none⟩ (.bool s7)).setCell ⟨gi, i * 5 + 1, none⟩ (.slice A7 r7.length c7)).setCell ⟨gi, i * 5 + 2, none⟩ (.bool s8)).setCell ⟨gi, i * 5 + 3, none⟩ (.slice A8 r8.length c8)).setCell ⟨gi, i * 5 + 4, none⟩ (.int .u8 x.st)) := ⟨_, rfl⟩
 rw [← hW'] at hg hown
 have hk : ∀ q, q < W.heap.size → q ≠ gi → W'.heap[q]? = W.heap[q]? := fun q h1 h2 => hg.block q h1 (fun e => h2 (by cases e; rfl))
 have hno := k.own.no_limb hL
 have ho : Off gi u := by rw [hu]; exact ⟨us_off u7 hno, us_off u8 hno⟩
 unfold inL inH at hin
 simp only [Bool.and_eq_true, decide_eq_true_eq, Nat.add_sub_cancel] at hin
 obtain ⟨⟨h1, h2⟩, ⟨h3, h4⟩⟩ := hin
 have h1' : ival x.sx x.xs < p2 m := h1
 have h2' : -p2 m ≤ ival x.sx x.xs := h2
 have h3' : ival x.sy x.ys < p2 m := h3
 have h4' : -p2 m ≤ ival x.sy x.ys := h4
 have hp := p2_succ m
 have l7 := len_in k7 v7 (by omega) (show _ < p2 (m + 1) by omega) hm
 have l8 := len_in k8 v8 (by omega) (show _ < p2 (m + 1) by omega) hm
 have hxo : ∀ a, 0 < xs.length → A = some a → a.block ≠ gi := fun a h0 ea => us_off k.h.us hno h0 a ea
 refine ⟨W', L.set i u, hW', by rw [List.length_set]; exact hL, ⟨(hk gh k.h.lt hgh).trans k.h.box, us_kept k.h.us hk hg.size (fun h0 a ea => hxo a h0 ea), k.h.cn, k.h.v, k.h.off⟩, by rw [hu]; exact hown, fun j hj => ?_, k.b.grown hg k.b.size (fun q e => by cases e; exact hgw), hg.size⟩
 by_cases hji : i = j
 ·
  subst hji
  rw [cat_set_same (by omega), ← hx]
  refine ⟨?_, ?_, ?_, ho, ?_, ?_, ?_⟩
  ·
   rw [hu] at ho ⊢
   exact ⟨us_kept u7 hk hg.size ho.1, us_kept u8 hk hg.size ho.2, k.cu.2.2⟩
  ·
   rw [hu]; exact ⟨k7, k8, by show r7.length ≤ 60000; omega, by show r8.length ≤ 60000; omega⟩
  ·
   rw [hu]; exact ⟨pos_in k7 (by rw [v7]; omega), pos_in k8 (by rw [v8]; omega)⟩
  ·
   rw [hu]; exact v7
  ·
   rw [hu]; exact v8
  ·
   rw [hu]
 ·
  rw [cat_set_ne hji]
  exact (hall j (by omega)).kept hk hg.size
theorem OwnC.row {w : World} {base g n cap : Nat} {L : List Cv} (h : OwnC w base (.slice (some ⟨g, 0, none⟩) n cap) L) : L.length = n ∧ (∀ i, i < n → CvAt w g (i * 5) (cat L i)) ∧ (∀ o, w.frozen? ⟨g, o, none⟩ = false) ∧ g < w.heap.size := by
 obtain ⟨A', c', e1, _, _, _, e5⟩ := h.shape
 simp only [Value.slice.injEq] at e1
 obtain ⟨rfl, rfl, rfl⟩ := e1
 obtain ⟨g', e, _, h3, h1, h2⟩ := e5 _ rfl
 cases e
 exact ⟨rfl, h1, h2, h3⟩
theorem cn_of {W : World} {gi : Nat} {h : Int} {v u : Cv} (k : InC W gi h v u) : u.cn = shC h v.cl := by
 have hx := k.xx
 have hy := k.yy
 have hs := k.stt
 have hn := k.nn
 rw [hn.1] at hx
 rw [hn.2] at hy
 unfold ival at hx hy
 simp only [Bool.false_eq_true, if_false] at hx hy
 unfold Cv.cn shC Cv.cl
 refine Cl.ext' ?_ ?_ ?_
 ·
  show ((val u.xs : Nat) : Int) = ival v.sx v.xs + h
  exact hx
 ·
  show ((val u.ys : Nat) : Int) = ival v.sy v.ys + h
  exact hy
 ·
  show ((u.st : Nat) : Int) = v.st
  rw [hs]
theorem OwnN.lowC {w : World} {base base' : Nat} {v : Value} {l : List Nd} (h : OwnN w base v l) (hb : base' ≤ base) : OwnN w base' v l := by
 refine ⟨h.1, h.2.1, ?_⟩
 rcases h.2.2 with h | ⟨g, cap, cur, e, hb', rest⟩
 ·
  exact .inl h
 ·
  exact .inr ⟨g, cap, cur, e, by omega, rest⟩
theorem nodes_call (w9 : World) (gi k m : Nat) (l' : List Cv) (hl : l'.length = k) (h0 : 0 < k) (hk : k ≤ 600) (hm : m + 1 ≤ 1329) (hC : Cs w9 (some ⟨gi, 0, none⟩) k l') (hhi : HiB (m + 1) 0 0 l') (hz : Zs l') (hst : ∀ u ∈ l', 1 ≤ u.st ∧ u.st ≤ 255) (hln : ∀ u ∈ l', u.xs.length ≤ 60000 ∧ u.ys.length ≤ 60000) :
  Calls Tryz.prog 62 #[.pointer (some ⟨w9.heap.size + 1, 0, none⟩), .slice (some ⟨gi, 0, none⟩) k k, .int .i64 ((m : Int) + 1)] ((w9.alloc (.map #[] 0)).alloc (.cells #[.slice none 0 0, .map (some w9.heap.size)] 96)) fun e w' =>
   ∃ v', e = .returned (.int .i64 (enc (treeZ (m + 1) l') []).2) ∧ w'.cell? ⟨w9.heap.size + 1, 0, none⟩ = some v' ∧ OwnN w' w9.heap.size v' (enc (treeZ (m + 1) l') []).1 ∧ Below w9.heap.size w9 w' := by
 obtain ⟨W, hW⟩ : ∃ W : World, W = (w9.alloc (.map #[] 0)).alloc (.cells #[.slice none 0 0, .map (some w9.heap.size)] 96) := ⟨_, rfl⟩
 have hb : Below w9.heap.size w9 W := by rw [hW]; exact ((Below.refl _ w9).alloc (Nat.le_refl _) _).alloc (by simp) _
 have hs : W.heap.size = w9.heap.size + 2 := by rw [hW]; simp
 have hbd : Bd W (w9.heap.size + 2) (w9.heap.size + 1) w9.heap.size (.slice none 0 0) [] := by
  refine ⟨?_, ownN_none _ _, ?_⟩
  ·
   rw [hW]
   have := heap_alloc_new (w9.alloc (.map #[] 0)) (.cells #[.slice none 0 0, .map (some w9.heap.size)] 96)
   rwa [World.size_alloc] at this
  ·
   rw [hW]
   exact (KM.made w9).stay (Below.heap_alloc _ _ _ (by simp))
 have h := node_rec (w9.heap.size + 2) (w9.heap.size + 1) w9.heap.size w9 (by omega) ⟨by omega, by omega⟩ ⟨by omega, Nat.le_refl _⟩ (m + 1) hm (some ⟨gi, 0, none⟩) k k l' 0 0 (.slice none 0 0) [] W hl h0 (by omega) hC hb hbd good_nil hhi hz hst hln (by
  have := Nat.mul_le_mul hm hk
  simp only [List.length_nil]
  omega) (by omega)
 rw [show (((m + 1 : Nat)) : Int) = (m : Int) + 1 by omega] at h
 rw [← hW]
 refine h.mono ?_
 rintro e w' ⟨v', rfl, h1, h2, h3⟩
 refine ⟨v', rfl, h1.c0, h1.o.lowC (by omega), hb.trans (h3.to hb.size (fun q hq => ?_))⟩
 rcases hq with rfl | rfl | hq
 ·
  omega
 ·
  exact Nat.le_refl _
 ·
  cases hq
def RetNs (lv : Nat) (l : List Cv) (w : World) (e : Ending) (w' : World) : Prop :=
 ∃ v' l', e = .returned v' ∧ OwnN w' w.heap.size v' (enc (treeZ lv l') []).1 ∧ (l'.map Cv.cn).Perm (l.map fun u => shC (p2 (lv - 1)) u.cl) ∧ HiB lv 0 0 l' ∧ Below w.heap.size w w'
set_option maxRecDepth 100000 in
set_option maxHeartbeats 6400000 in
theorem nodes_any (A0 : Option Addr) (c0 n lv : Nat) (l : List Cv) (w : World) (h : Cs w A0 c0 l) (hn : l.length = n) (hn0 : 0 < n) (hn9 : n ≤ 600) (hR : ∀ v ∈ l, CvR v) (hS : ∀ v ∈ l, 1 ≤ v.st) (hI : ∀ v ∈ l, inL v.cl lv = true) (hl1 : 1 ≤ lv) (hl2 : lv ≤ 1329) :
  Calls Tryz.prog 28 #[.slice A0 n c0, .int .i64 (lv : Int)] w (RetNs lv l w) := by
 obtain ⟨m, rfl⟩ : ∃ m, lv = m + 1 := ⟨lv - 1, by omega⟩
 have e0 : (((m + 1 : Nat) : Int)) = (m : Int) + 1 := by omega
 rw [e0]
 have hcap := h.cap
 rw [hn] at hcap
 obtain ⟨i0, hi, hz0, hz1, hz2⟩ := info_parts Tryz.infoC
 have HI0 := Lib.hid (And.intro hi (And.intro hz0 (And.intro hz1 hz2)))
 have HC := Lib.hid h
 have HN := Lib.hid hn
 have HR := Lib.hid hR
 have HS := Lib.hid hS
 have HI := Lib.hid hI
 have t0 : ((n : Int) == 0) = false := by rw [beq_eq_false_iff_ne]; omega
 clear h hi hz0 hz1 hz2 hR hS hI hn e0
 go_enter Tryz.func28, Tryz.ntmps28
 go_wp2_with (first
  | (go_at_call 41; go_loud (refine (bpow_any _ _).mono ?_; rintro e w5 ⟨A5, c5, s5, r5, rfl, u5, k5, v5, b5⟩; rw [show shlI 1 (m : Int) = p2 m by unfold shlI p2; rw [if_pos (by omega), Int.toNat_natCast, Int.one_mul]] at v5; have U5 := Lib.hid u5; have K5 := Lib.hid k5; have V5 := Lib.hid v5; have B5 := Lib.hid b5; have hg5 := heap_alloc_new w5 (.cells #[.bool s5, .slice A5 r5.length c5] 42); have bl5 := (Below.refl w5.heap.size w5).alloc (Nat.le_refl _) (.cells #[.bool s5, .slice A5 r5.length c5] 42); have H5 := Lib.hid (show HX (w5.alloc (.cells #[.bool s5, .slice A5 r5.length c5] 42)) w5.heap.size s5 A5 c5 r5 (p2 m) from ⟨hg5, u5.below bl5, k5, v5, fun hx a e => by have := us_lt u5 hx a e; omega⟩); have BL5 := Lib.hid (b5.trans (bl5.mono b5.size)); have hsz5 := BL5.out.size; clear u5 k5 v5 b5 hg5 bl5))
  | (at_make; go_loud (refine wpList_make_full _ rfl _ _ 22 rfl w.heap.size 47 i0 _ 5 Tryz.underlying22 HI0.out.1 HI0.out.2.1 HI0.out.2.2.1 .i64 .i64 _ _ n rfl rfl (by omega) (by omega) (by rw [HI0.out.2.2.2]; omega) (by unfold maxLen; omega) hsz5 ?_; intro w6 own grow; have OW := Lib.hid own; have GR := Lib.hid grow; clear own grow)))
 obtain ⟨gh, hgh⟩ : ∃ gh, gh = w5.heap.size := ⟨_, rfl⟩
 have hB6 : Below w.heap.size w w6 := BL5.out.grown GR.out BL5.out.size (fun k hk => by cases hk)
 have hL6 : Below (w5.alloc (.cells #[.bool s5, .slice A5 r5.length c5] 42)).heap.size (w5.alloc (.cells #[.bool s5, .slice A5 r5.length c5] 42)) w6 := ⟨GR.out.os, GR.out.tape, GR.out.output, GR.out.size, fun q hq => GR.out.block q hq (by simp)⟩
 have hH6 : HX w6 gh s5 A5 c5 r5 (p2 m) := by rw [hgh]; exact H5.out.next hL6
 have hO6 : OwnC w6 w.heap.size (.slice (some ⟨gh + 1, 0, none⟩) n n) (List.replicate n cv0) := by
  have := OwnC.made OW.out
  rw [World.size_alloc] at this
  rw [hgh]
  exact this
 have hg6 : gh + 1 < w6.heap.size := (hO6.lt (gh + 1) rfl).2
 have HGW := Lib.hid (show w.heap.size ≤ gh by rw [hgh]; exact B5.out.size)
 rw [← hgh]
 have HB6 := Lib.hid hB6
 have HH6 := Lib.hid hH6
 have HO6 := Lib.hid hO6
 have HG6 := Lib.hid hg6
 have HLP := Lib.hid (len_p2 K5.out V5.out (by omega))
 clear hgh hB6 hL6 hH6 hO6 hg6
 go_loopw [21] (fun z wr => ∃ (k : Nat) (L : List Cv), k ≤ n ∧ z = .int .i64 k ∧ L.length = n ∧ HX wr gh s5 A5 c5 r5 (p2 m) ∧ OwnC wr w.heap.size (.slice (some ⟨gh + 1, 0, none⟩) n n) L ∧ (∀ j, j < k → InC wr (gh + 1) (p2 m) (cat l j) (cat L j)) ∧ Below w.heap.size w wr ∧ gh + 1 < wr.heap.size) (fun z _ => n - (intOf z).toNat)
 case atStart => exact ⟨0, _, by omega, rfl, by simp, HH6.out, HO6.out, fun j hj => by omega, HB6.out, HG6.out⟩
 case round =>
  obtain ⟨k, L, hk, rfl, hLL, hh, how, hall, hbb, hgg⟩ := hrel
  have HLL := Lib.hid hLL
  have HHX := Lib.hid hh
  have HOW := Lib.hid how
  have HAL := Lib.hid hall
  have HBB := Lib.hid hbb
  by_cases hlt : k < n
  ·
   have i1 : (k : Int) < (n : Int) := by omega
   have i2 : (0 : Int) ≤ (k : Int) := by omega
   have t1 : decide ((k : Int) < (n : Int)) = true := decide_eq_true i1
   obtain ⟨b, off, rfl, hbl, hcl⟩ := (HC.out.below hbb).at_ (by rw [HN.out]; omega)
   obtain ⟨c1_, c2_, c3_, c4_, c5_⟩ := hcl k (by rw [HN.out]; exact hlt)
   have hxl := cat_mem (l := l) (i := k) (by rw [HN.out]; exact hlt)
   have hxu := (HC.out.below hbb).1 _ hxl
   have hxr := HR.out _ hxl
   have hxi := HI.out _ hxl
   obtain ⟨x, hx⟩ : ∃ x, x = cat l k := ⟨_, rfl⟩
   rw [← hx] at c1_ c2_ c3_ c4_ c5_ hxu hxr hxi
   have hv1 := hxu.1.cap
   have hv2 := hxu.2.1.cap
   have HX_ := Lib.hid hx
   have HXR := Lib.hid hxr
   have HXI := Lib.hid hxi
   obtain ⟨bc, hbc⟩ : ∃ bc, bc = wr.heap.size := ⟨_, rfl⟩
   have hst0 : NR w gh (gh + 1) bc s5 A5 c5 r5 (p2 m) n L x (wr.alloc (.cells #[.bool x.sx, .slice x.ax x.xs.length x.cx, .bool x.sy, .slice x.ay x.ys.length x.cy, .int .u8 x.st] 47)) := by
    have hb1 : Below wr.heap.size wr (wr.alloc (.cells #[.bool x.sx, .slice x.ax x.xs.length x.cx, .bool x.sy, .slice x.ay x.ys.length x.cy, .int .u8 x.st] 47)) := (Below.refl _ wr).alloc (Nat.le_refl _) _
    exact ⟨hbb.trans (hb1.mono hbb.size), hh.next hb1, how.alloc _, by rw [hbc]; simp, by rw [hbc]; exact CvAt.new wr x _, hxu.below hb1⟩
   have hgr0 : wr.heap.size ≤ (wr.alloc (.cells #[.bool x.sx, .slice x.ax x.xs.length x.cx, .bool x.sy, .slice x.ay x.ys.length x.cy, .int .u8 x.st] 47)).heap.size := by simp
   have HST0 := Lib.hid (hst0.next (below_drewN (Below.refl _ _) 1))
   have HBC := Lib.hid hbc
   have G0 := Lib.hid (below_drewN ((Below.refl wr.heap.size wr).alloc (Nat.le_refl _) (.cells #[.bool x.sx, .slice x.ax x.xs.length x.cx, .bool x.sy, .slice x.ay x.ys.length x.cy, .int .u8 x.st] 47)) 1)
   obtain ⟨e1, e2, e3, e4, e5⟩ := hst0.cv
   have p1 := hst0.h.c0
   have p2_ := hst0.h.c1
   have hpc := hst0.h.us.cap
   clear hx hxu hxr hxi hcl hh how hall hst0 hxl hbb
   go_wp2_with fail
   rw [← hbc]
   have nn1 : gh + 1 ≠ bc := by omega
   have nn2 : bc ≠ gh + 1 := by omega
   have nn3 : gh + 1 ≠ gh := by omega
   have nn4 : gh ≠ gh + 1 := by omega
   clear hbc
   go_region_held3 (fun w' => (w'.cell? ⟨bc, 0, none⟩ = some (.bool x.sx) ∧ w'.cell? ⟨bc, 1, none⟩ = some (.slice x.ax x.xs.length x.cx) ∧ w'.cell? ⟨bc, 2, none⟩ = some (.bool x.sy) ∧ w'.cell? ⟨bc, 3, none⟩ = some (.slice x.ay x.ys.length x.cy) ∧ w'.cell? ⟨bc, 4, none⟩ = some (.int .u8 x.st)) ∧ w'.cell? ⟨gh, 0, none⟩ = some (.bool s5) ∧ w'.cell? ⟨gh, 1, none⟩ = some (.slice A5 r5.length c5))
    (first | go_keep | exact ⟨⟨e1, e2, e3, e4, e5⟩, p1, p2_⟩)
    (first
     | (go_at_call_of 48 (Value.agg #[Value.bool x.sx, Value.slice x.ax x.xs.length x.cx]); go_loud (refine (badd_any x.sx s5 x.ax A5 x.cx c5 x.xs r5 _ (NR.cu (by first | exact SY.out | exact HST0.out)).1 (NR.h (by first | exact SY.out | exact HST0.out)).us HXR.out.2.2.1 (by have := HLP.out; omega)).mono ?_; rintro e w7 ⟨A7, c7, s7, r7, rfl, u7, k7, v7, b7⟩; rw [V5.out] at v7; have UX := Lib.hid u7; have KX := Lib.hid k7; have VX := Lib.hid v7; have SX := Lib.hid (NR.next (by first | exact SY.out | exact HST0.out) b7); have GX := Lib.hid (Below.trans (show Below wr.heap.size wr _ from by first | exact GY.out | exact G0.out) (b7.mono (Below.size (show Below wr.heap.size wr _ from by first | exact GY.out | exact G0.out)))); (try (have UYn := Lib.hid (UY.out.below b7))); clear u7 k7 v7 b7; obtain ⟨⟨y1, y2, y3, y4, y5⟩, yf⟩ := SX.out.row HLL.out hlt; have yf0 := yf (k * 5); have yf1 := yf (k * 5 + 1); have yf2 := yf (k * 5 + 2); have yf3 := yf (k * 5 + 3); have yf4 := yf (k * 5 + 4); obtain ⟨e1, e2, e3, e4, e5⟩ := SX.out.cv; have p1 := SX.out.h.c0; have p2_ := SX.out.h.c1))
     | (go_at_call_of 48 (Value.agg #[Value.bool x.sy, Value.slice x.ay x.ys.length x.cy]); go_loud (refine (badd_any x.sy s5 x.ay A5 x.cy c5 x.ys r5 _ (NR.cu (by first | exact SX.out | exact HST0.out)).2.1 (NR.h (by first | exact SX.out | exact HST0.out)).us HXR.out.2.2.2 (by have := HLP.out; omega)).mono ?_; rintro e w8 ⟨A8, c8, s8, r8, rfl, u8, k8, v8, b8⟩; rw [V5.out] at v8; have UY := Lib.hid u8; have KY := Lib.hid k8; have VY := Lib.hid v8; have SY := Lib.hid (NR.next (by first | exact SX.out | exact HST0.out) b8); have GY := Lib.hid (Below.trans (show Below wr.heap.size wr _ from by first | exact GX.out | exact G0.out) (b8.mono (Below.size (show Below wr.heap.size wr _ from by first | exact GX.out | exact G0.out)))); (try (have UXn := Lib.hid (UX.out.below b8))); clear u8 k8 v8 b8; obtain ⟨⟨y1, y2, y3, y4, y5⟩, yf⟩ := SY.out.row HLL.out hlt; have yf0 := yf (k * 5); have yf1 := yf (k * 5 + 1); have yf2 := yf (k * 5 + 2); have yf3 := yf (k * 5 + 3); have yf4 := yf (k * 5 + 4); obtain ⟨e1, e2, e3, e4, e5⟩ := SY.out.cv; have p1 := SY.out.h.c0; have p2_ := SY.out.h.c1)))
   all_goals
    first
     | (obtain ⟨W', L', hW', hL', hh', how', hall', hbb', hsz'⟩ := SY.out.put HLL.out hlt HX_.out (fun j hj => (HAL.out j hj).kept (fun q hq _ => GY.out.block q hq) GY.out.size) nn4 (by have := HGW.out; omega) (by omega) HXI.out UXn.out KX.out VX.out UY.out KY.out VY.out; have HG := Lib.hid (Nat.le_trans GY.out.size hsz'))
     | (obtain ⟨W', L', hW', hL', hh', how', hall', hbb', hsz'⟩ := SX.out.put HLL.out hlt HX_.out (fun j hj => (HAL.out j hj).kept (fun q hq _ => GX.out.block q hq) GX.out.size) nn4 (by have := HGW.out; omega) (by omega) HXI.out UX.out KX.out VX.out UYn.out KY.out VY.out; have HG := Lib.hid (Nat.le_trans GX.out.size hsz'))
    rw [← hW']
    have HL' := Lib.hid hL'
    have HH' := Lib.hid hh'
    have HO' := Lib.hid how'
    have HA' := Lib.hid hall'
    have HB' := Lib.hid hbb'
    clear hW' hL' hh' how' hall' hbb' hsz'
    go_wp2_with fail
    go_roundw
    case rel => exact ⟨k + 1, L', by omega, by go_num, HL'.out, HH'.out, HO'.out, HA'.out, HB'.out, by have := HG.out; omega⟩
    case measure => simp [intOf]; omega
  ·
   obtain rfl : k = n := by omega
   have t1 : decide ((k : Int) < (k : Int)) = false := decide_eq_false (by omega)
   obtain ⟨hl_, hcell, hfree, hgl⟩ := how.row
   have hmem : ∀ u ∈ L, ∃ j, j < k ∧ u = cat L j := fun u hu => by
    obtain ⟨j, hj, rfl⟩ := List.getElem_of_mem hu
    exact ⟨j, by omega, (cat_get hj).symm⟩
   have hlm : ∀ j, j < k → cat l j ∈ l := fun j hj => cat_mem (by rw [HN.out]; exact hj)
   have hall' : ∀ u ∈ L, CvU wr u ∧ CvR u ∧ CvN u ∧ Off (gh + 1) u := fun u hu => by
    obtain ⟨j, hj, rfl⟩ := hmem u hu
    have := hall j hj
    exact ⟨this.us, this.rt, this.nn, this.off⟩
   have hst : ∀ u ∈ L, 1 ≤ u.st ∧ u.st ≤ 255 := fun u hu => by
    obtain ⟨j, hj, rfl⟩ := hmem u hu
    have h1 := hall j hj
    have h2 := HS.out _ (hlm j hj)
    have h3 := h1.us.2.2
    have h4 := h1.stt
    omega
   have hmap : L.map Cv.cn = l.map fun u => shC (p2 m) u.cl := by
    refine List.ext_getElem (by rw [List.length_map, List.length_map, hl_, HN.out]) fun j h1 h2 => ?_
    rw [List.length_map] at h1
    rw [List.getElem_map, List.getElem_map, ← cat_get h1, ← cat_get (by rw [HN.out]; omega)]
    exact cn_of (hall j (by omega))
   have hhi : HiB (m + 1) 0 0 L := fun u hu => by
    obtain ⟨j, hj, rfl⟩ := hmem u hu
    have h1 := cn_of (hall j hj)
    have h2 := HI.out _ (hlm j hj)
    unfold inL inH at h2
    simp only [Bool.and_eq_true, decide_eq_true_eq, Nat.add_sub_cancel] at h2
    have hp := p2_succ m
    have e1 : ((val (cat L j).xs : Nat) : Int) = (cat l j).cl.x + p2 m := congrArg Cl.x h1
    have e2 : ((val (cat L j).ys : Nat) : Int) = (cat l j).cl.y + p2 m := congrArg Cl.y h1
    have e3 : p2 (m + 1) = ((2 ^ (m + 1) : Nat) : Int) := by unfold p2; simp
    exact ⟨Nat.div_eq_of_lt (by omega), Nat.div_eq_of_lt (by omega)⟩
   have eg : ∀ args w, (callFunc 61 args).run Tryz.prog w = .ok (.enter 61 args) w := enters_of Tryz.func61 (by kernel_rfl) rfl
   have hso := sortC_any 61 cfQ CvN eg (fun v u W h k' r r' _ _ => byQuarter_gro v u W h k' r r') (fun {v u t} hv hu ht => by rw [cfQ_neg hv hv, cfQ_neg hv hu, cfQ_neg hu ht, cfQ_neg hv ht]; exact ⟨by omega, by omega, by omega⟩) (gh + 1) k k L wr hl_ hn0 (by omega) hgl hcell hfree hall'
   have HSO := Lib.hid hso
   have HMAP := Lib.hid hmap
   have HHI := Lib.hid hhi
   have HST := Lib.hid hst
   have HALL := Lib.hid hall'
   have HGL := Lib.hid hgl
   have hmm := @run_makeMap Tryz.prog
   clear hso hmap hhi hst hall' hcell hfree hmem hlm hh how hall hbb hl_
   go_wp2_with (first
    | (go_at_call 43; go_loud (refine HSO.out.mono ?_; rintro e w9 ⟨rfl, l', hpm, hpw, hcl, hg9⟩; have HPM := Lib.hid hpm; have HG9 := Lib.hid hg9; have hk9 : ∀ q, q < wr.heap.size → q ≠ gh + 1 → w9.heap[q]? = wr.heap[q]? := fun q h1 h2 => hg9.block q h1 (fun e => h2 (by cases e; rfl)); have hl' : l'.length = k := (by rw [hpm.length_eq]; exact HLL.out); have hsub : ∀ u ∈ l', u ∈ L := fun u hu => hpm.mem_iff.1 hu; have HCA := Lib.hid (nodes_call w9 (gh + 1) k m l' hl' hn0 hn9 hl2 ⟨fun u hu => cvU_kept (HALL.out u (hsub u hu)).1 hk9 hg9.size (HALL.out u (hsub u hu)).2.2.2, by omega, (by unfold maxLen; omega), fun _ => ⟨gh + 1, 0, rfl, Nat.lt_of_lt_of_le HGL.out hg9.size, fun i hi => by rw [Nat.zero_add]; exact hcl i (by omega)⟩⟩ (fun u hu => HHI.out u (hsub u hu)) (List.Pairwise.imp_of_mem (fun {a b} ha hb hab => by rw [cfQ_neg (HALL.out b (hsub b hb)).2.2.1 (HALL.out a (hsub a ha)).2.2.1] at hab; omega) hpw) (fun u hu => HST.out u (hsub u hu)) (fun u hu => ⟨(HALL.out u (hsub u hu)).2.1.2.2.1, (HALL.out u (hsub u hu)).2.1.2.2.2⟩)); have HSUB := Lib.hid hsub; clear hpm hpw hcl hg9 hk9 hl' hsub))
    | (go_at_call 62; go_loud (refine HCA.out.mono ?_; rintro e w10 ⟨v10, rfl, hc10, ho10, hb10⟩; have HO10 := Lib.hid ho10; have HB10 := Lib.hid hb10; clear ho10 hb10)))
   go_ret
   refine ⟨v10, l', rfl, HO10.out.lowC (Nat.le_trans HBB.out.size HG9.out.size), ?_, fun u hu => HHI.out u (HSUB.out u hu), (HBB.out.grown HG9.out HBB.out.size (fun q e => by cases e; have := HGW.out; omega)).trans (HB10.out.mono (Nat.le_trans HBB.out.size HG9.out.size))⟩
   have := HPM.out.map Cv.cn
   rw [HMAP.out] at this
   exact this
end Go.Proofs.YtmfncapgikobkaaGreat

namespace Go.Proofs.YtmfncapgikobkaaGreat
set_option maxRecDepth 100000
set_option linter.unusedVariables false
set_option linter.unusedSimpArgs false
open Go.RowKit Nds Num
theorem oper_make_cap {P : Program} {w : World} {o : Oper} {a : Act} {K : Act → World → Prop} {Q : Exit → Act → World → Prop}
  (l c : Operand) (t : TypeId) (hop : o.op = Op.makeSlice t l c)
  (e : TypeId) (i : TypeInfo) (z : Value) (size : Nat) (h1 : P.underlying t = some (.slice e)) (h2 : P.info? e = some i) (h3 : i.zero = some z) (h4 : i.size = size)
  (kl kc : IntKind) (n : Nat) (hl : a.eval l = .int kl 0) (hc : a.eval c = .int kc (n : Int)) (b2 : i.bytes * n ≤ 281474976710656) (b3 : n ≤ maxLen)
  (hK : K (a.put o.dst (.slice (some ⟨w.heap.size, 0, none⟩) 0 n)) (w.alloc (.cells (madeCells z.cells (n * size)) e))) :
  Oper.wp P o a w K Q := by
 have h63 : (n : Int) ≤ 9223372036854775807 := by
  have h := b3
  simp [maxLen] at h
  omega
 have hb' : (i.bytes : Int) * (n : Int) ≤ 281474976710656 := by
  have h : ((i.bytes * n : Nat) : Int) ≤ 281474976710656 := by omega
  rwa [Int.natCast_mul] at h
 have hr := run_make (P := P) w t e i z h1 h2 h3 kl kc 0 n (Int.le_refl _) (by omega) hb' h63
 simp only [Int.toNat_zero, Int.toNat_natCast] at hr
 subst h4
 unfold Oper.wp
 simp [execOp, hop, hl, hc, hr, Result.andThen]
 exact hK
theorem own_zero {W : World} {base g n : Nat} (h : OwnU W base g n (List.replicate n 0)) {o : Nat} {v : Int} (hc : W.cell? ⟨g, o, none⟩ = some (.int .u32 v)) : v = 0 := by
 rcases h.2.2.2 with ⟨h', _⟩ | ⟨g', cap, cur, h', hb, hg, hnc, hcm, hcs, htake⟩
 ·
  cases h'
 ·
  cases h'
  rw [cell_of_row W g o cur _ (0, 0) hg] at hc
  have ho : o < n * 1 := by
   have := (Array.getElem?_eq_some_iff.1 hc).1
   omega
  have h2 : ((List.replicate n 0).map u32v)[o]? = some (.int .u32 v) := by
   rw [← htake, List.getElem?_take, if_pos ho, Array.getElem?_toList]
   exact hc
  rw [List.map_replicate, List.getElem?_replicate, if_pos (by omega)] at h2
  have h3 := Option.some.inj h2
  simp only [Value.int.injEq, true_and] at h3
  omega
theorem own_type {W : World} {base g n : Nat} {xs : List Nat} (h : OwnU W base g n xs) : ∃ cur, W.heap[g]? = some (.cells cur 89) := by
 rcases h.2.2.2 with ⟨h', _⟩ | ⟨g', cap, cur, h', hb, hg, _⟩
 ·
  cases h'
 ·
  cases h'
  exact ⟨cur, hg⟩
theorem us_off_zero {W : World} {base g n : Nat} (h : OwnU W base g n (List.replicate n 0)) {B : Option Addr} {d : Nat} {hs : List Nat} (u : Us W B d hs) (h0 : hs ≠ []) (hc : Canon hs) : ∀ a, B = some a → a.block ≠ g := fun a ea e => by
 have hlen := List.length_pos_iff.2 h0
 obtain ⟨b, off, e2, hb, hcl⟩ := u.at_ hlen
 rw [ea] at e2
 cases e2
 dsimp only at e
 subst e
 have h1 := own_zero h (hcl (hs.length - 1) (by omega))
 unfold Canon at hc
 rw [List.getLast?_eq_getElem?] at hc
 have h2 : hs[hs.length - 1]? = some (hs[hs.length - 1]'(by omega)) := List.getElem?_eq_getElem _
 rw [h2] at h1 hc
 simp only [Option.getD_some] at h1
 exact hc (by rw [show hs[hs.length - 1]'(by omega) = 0 by omega])
theorem made_no_limb {W : World} {g cnt : Nat} (h : W.heap[g]? = some (.cells (madeCells (cvv cv0).cells (cnt * 5)) 47)) : ∀ o v, W.cell? ⟨g, o, none⟩ = some v → ∀ k, v ≠ .int .u32 k := by
 intro o v hv k e
 subst e
 rw [cell_of_row W g o _ _ (0, 0) h, ← Array.getElem?_toList, madeC] at hv
 have h3 : (Value.int .u32 k) ∈ cvcs (List.replicate cnt cv0) := List.mem_of_getElem? hv
 obtain ⟨x, _, hx⟩ := List.mem_flatMap.1 h3
 simp [encC] at hx
structure LInv (w : World) (A : Option Addr) (c n m n1 cnt : Nat) (p x y f b : Bool) (B : Option Addr) (d : Nat) (s : Bool) (hs : List Nat) (gx gy gf gb : Nat) (W : World) : Prop where
 gr : Below w.heap.size w W
 q : w.heap.size < W.heap.size ∧ W.heap[w.heap.size]? = some (.cells #[.slice A n c] 27)
 pp : p = true → Us W B d hs ∧ CanonI s hs ∧ ival s hs = p2 m
 xx : x = true → OwnU W w.heap.size gx n1 (List.replicate n1 0)
 yy : y = true → OwnU W w.heap.size gy n1 (List.replicate n1 0)
 ff : f = true → OwnC W w.heap.size (.slice (some ⟨gf, 0, none⟩) 0 cnt) [] ∧ W.heap[gf]? = some (.cells (madeCells (cvv cv0).cells (cnt * 5)) 47)
 bb : b = true → w.heap.size < gb ∧ W.heap[gb]? = some (.cells #[.slice none 0 0, .bool false, .slice none 0 0, .slice none 0 0, .slice none 0 0, .slice none 0 0] 75)
 ne : x = true → y = true → gx ≠ gy
section
variable {w : World} {A : Option Addr} {c n m n1 cnt : Nat} {p x y f b : Bool} {B : Option Addr} {d : Nat} {s : Bool} {hs : List Nat} {gx gy gf gb : Nat} {W W1 : World}
theorem LInv.next (h : LInv w A c n m n1 cnt p x y f b B d s hs gx gy gf gb W) (k : Below W.heap.size W W1) : LInv w A c n m n1 cnt p x y f b B d s hs gx gy gf gb W1 :=
 ⟨h.gr.trans (k.mono h.gr.size), ⟨Nat.lt_of_lt_of_le h.q.1 k.size, (k.block _ h.q.1).trans h.q.2⟩, fun e => ⟨(h.pp e).1.below k, (h.pp e).2⟩, fun e => (h.xx e).below k, fun e => (h.yy e).below k,
  fun e => ⟨(h.ff e).1.kept (gbN k) (own_dec (fun q _ e2 => by cases e2)), (k.block _ (Array.getElem?_eq_some_iff.1 (h.ff e).2).1).trans (h.ff e).2⟩, fun e => ⟨(h.bb e).1, (k.block _ (Array.getElem?_eq_some_iff.1 (h.bb e).2).1).trans (h.bb e).2⟩, h.ne⟩
theorem LInv.held (h : LInv w A c n m n1 cnt p x y f b B d s hs gx gy gf gb W) : W.cell? ⟨w.heap.size, 0, none⟩ = some (.slice A n c) := one_cell h.q.2
theorem LInv.setP (h : LInv w A c n m n1 cnt p x y f b B d s hs gx gy gf gb W) (k : Below W.heap.size W W1) {B2 : Option Addr} {d2 : Nat} {s2 : Bool} {hs2 : List Nat} (u : Us W1 B2 d2 hs2) (hc : CanonI s2 hs2) (hv : ival s2 hs2 = shlI 1 (m : Int)) (hm : m ≤ 1330) :
  LInv w A c n m n1 cnt true x y f b B2 d2 s2 hs2 gx gy gf gb W1 := by
 have h1 := h.next k
 exact ⟨h1.gr, h1.q, fun _ => ⟨u, hc, hv.trans (pow_p2 m hm)⟩, h1.xx, h1.yy, h1.ff, h1.bb, h1.ne⟩
theorem LInv.setX (h : LInv w A c n m n1 cnt p x y f b B d s hs gx gy gf gb W) (ho : W1.ownsRow w.heap.size 89 1 (.slice (some ⟨W.heap.size, 0, none⟩) n1 n1) n1 (madeCells (Value.cells (.int .u32 0)) (n1 * 1)).toList) (hg : W.grownBy W1 none) :
  LInv w A c n m n1 cnt p true y f b B d s hs W.heap.size gy gf gb W1 := by
 have k : Below W.heap.size W W1 := (Below.refl _ _).grown hg (Nat.le_refl _) (fun k hk => by cases hk)
 have h1 := h.next k
 exact ⟨h1.gr, h1.q, h1.pp, fun _ => OwnU.made ho, h1.yy, h1.ff, h1.bb, fun _ e => by have := (h.yy e).lt; omega⟩
theorem LInv.setY (h : LInv w A c n m n1 cnt p x y f b B d s hs gx gy gf gb W) (ho : W1.ownsRow w.heap.size 89 1 (.slice (some ⟨W.heap.size, 0, none⟩) n1 n1) n1 (madeCells (Value.cells (.int .u32 0)) (n1 * 1)).toList) (hg : W.grownBy W1 none) :
  LInv w A c n m n1 cnt p x true f b B d s hs gx W.heap.size gf gb W1 := by
 have k : Below W.heap.size W W1 := (Below.refl _ _).grown hg (Nat.le_refl _) (fun k hk => by cases hk)
 have h1 := h.next k
 exact ⟨h1.gr, h1.q, h1.pp, h1.xx, fun _ => OwnU.made ho, h1.ff, h1.bb, fun e _ => by have := (h.xx e).lt; omega⟩
theorem LInv.setF (h : LInv w A c n m n1 cnt p x y f b B d s hs gx gy gf gb W) (hcnt : cnt ≤ 1000000) :
  LInv w A c n m n1 cnt p x y true b B d s hs gx gy W.heap.size gb (W.alloc (.cells (madeCells (cvv cv0).cells (cnt * 5)) 47)) := by
 have h1 := h.next ((Below.refl _ W).alloc (Nat.le_refl _) (.cells (madeCells (cvv cv0).cells (cnt * 5)) 47))
 exact ⟨h1.gr, h1.q, h1.pp, h1.xx, h1.yy, fun _ => ⟨World.ownsRow_made W _ cnt h.gr.size (by unfold maxLen; omega) (size_madeCells _ _), heap_alloc_new W _⟩, h1.bb, h1.ne⟩
theorem LInv.setB (h : LInv w A c n m n1 cnt p x y f b B d s hs gx gy gf gb W) :
  LInv w A c n m n1 cnt p x y f true B d s hs gx gy gf W.heap.size (W.alloc (.cells #[.slice none 0 0, .bool false, .slice none 0 0, .slice none 0 0, .slice none 0 0, .slice none 0 0] 75)) := by
 have h1 := h.next ((Below.refl _ W).alloc (Nat.le_refl _) (.cells #[.slice none 0 0, .bool false, .slice none 0 0, .slice none 0 0, .slice none 0 0, .slice none 0 0] 75))
 exact ⟨h1.gr, h1.q, h1.pp, h1.xx, h1.yy, h1.ff, fun _ => ⟨h.q.1, heap_alloc_new W _⟩, h1.ne⟩
theorem half_pos {s : Bool} {hs : List Nat} {m : Nat} (hc : CanonI s hs) (hv : ival s hs = p2 m) : s = false ∧ hs ≠ [] ∧ Canon hs ∧ (val hs : Int) = p2 m := by
 have hp := p2_pos m
 have h1 := pos_in hc (by omega)
 subst h1
 refine ⟨rfl, fun e => ?_, hc.1, ?_⟩
 ·
  rw [e, ival_nil] at hv
  omega
 ·
  unfold ival at hv
  simpa using hv
theorem LInv.fi {l : List Nd} (h : LInv w A c n m n1 cnt true true true true true B d s hs gx gy gf gb W) (hn : l.length = n) (hn0 : 0 < n) (hN : Ns w A c l) (hg : W.grownBy W1 (some gb))
  (hbx : W1.heap[gb]? = some (.cells #[.slice A n c, .bool s, .slice B hs.length d, .slice (some ⟨gx, 0, none⟩) n1 n1, .slice (some ⟨gy, 0, none⟩) n1 n1, .slice (some ⟨gf, 0, none⟩) 0 cnt] 75)) :
  hs ≠ [] ∧ Canon hs ∧ (val hs : Int) = p2 m ∧ Fi ⟨gb, gx, gy, n1, A, c, l, B, d, hs⟩ w.heap.size (.slice (some ⟨gf, 0, none⟩) 0 cnt) [] (List.replicate n1 0) (List.replicate n1 0) W1 ∧ Below w.heap.size w W1 := by
 obtain ⟨u, k1, v1⟩ := h.pp rfl
 obtain ⟨rfl, h0, hc, hv⟩ := half_pos k1 v1
 have hX := h.xx rfl
 have hY := h.yy rfl
 obtain ⟨hF, hF2⟩ := h.ff rfl
 obtain ⟨hb1, hB⟩ := h.bb rfl
 have hne := h.ne rfl rfl
 obtain ⟨cx, hx⟩ := own_type hX
 obtain ⟨cy, hy⟩ := own_type hY
 have n1_ : gb ≠ gx := fun e => by rw [e, hx] at hB; simp at hB
 have n2_ : gb ≠ gy := fun e => by rw [e, hy] at hB; simp at hB
 have n3_ : gf ≠ gb := fun e => by rw [← e, hF2] at hB; simp at hB
 have n4_ : gf ≠ gx := fun e => by rw [e, hx] at hF2; simp at hF2
 have n5_ : gf ≠ gy := fun e => by rw [e, hy] at hF2; simp at hF2
 have hlen := List.length_pos_iff.2 h0
 obtain ⟨b0, off, eA, hb0, _⟩ := hN.at_ (by omega)
 have hN2 := hN.below h.gr
 have bX := hX.base
 have bY := hY.base
 have bF := (hF.lt gf rfl).1
 have offB : ∀ o v, W.cell? ⟨gb, o, none⟩ = some v → ∀ k, v ≠ .int .u32 k := fun o v hv k e => by
  subst e
  rw [cell_of_row W gb o _ _ (0, 0) hB] at hv
  match o with
  | 0 | 1 | 2 | 3 | 4 | 5 => simp at hv
  | o + 6 => simp at hv
 have uB : ∀ a, B = some a → a.block ≠ gb := fun a ea => us_off u offB hlen a ea
 have uF : ∀ a, B = some a → a.block ≠ gf := fun a ea => us_off u (made_no_limb hF2) hlen a ea
 have uX := us_off_zero hX u h0 hc
 have uY := us_off_zero hY u h0 hc
 have hbl : Below w.heap.size w W1 := h.gr.grown hg h.gr.size (fun q e => by cases e; omega)
 refine ⟨h0, hc, hv, ⟨?_, ?_, ?_, us_turn u hg uB, ?_, ?_, ?_, hF.kept hg (own_dec (fun q hq e => ?_)), ⟨n1_, n2_, hne, ?_, ?_, ?_⟩, fun v hv => by cases hv⟩, hbl⟩
 ·
  rw [hn]; exact hbx
 ·
  exact hN.below hbl
 ·
  intro a ea
  have ea' : A = some a := ea
  rw [eA] at ea'
  cases ea'
  refine ⟨Nat.lt_of_lt_of_le hb0 hbl.size, fun hp => ?_⟩
  rcases hp with e | e | e | e
  ·
   have e' : b0 = gb := e; omega
  ·
   have e' : b0 = gx := e; omega
  ·
   have e' : b0 = gy := e; omega
  ·
   have e' := Option.some.inj (show some gf = some b0 from e); omega
 ·
  intro a ea
  refine ⟨Nat.lt_of_lt_of_le (us_lt u hlen a ea) hg.size, fun hp => ?_⟩
  rcases hp with e | e | e | e
  ·
   exact uB a ea e
  ·
   exact uX a ea e
  ·
   exact uY a ea e
  ·
   exact uF a ea (Option.some.inj (show some gf = some a.block from e)).symm
 ·
  exact ownU_turn ⟨hX.1, hX.2.1, hX.2.2.1, hX.2.2.2.imp id (fun ⟨g', cap, cur, e1, e2, e3⟩ => ⟨g', cap, cur, e1, by cases e1; exact Nat.le_refl _, e3⟩)⟩ hg n1_.symm
 ·
  exact ownU_turn ⟨hY.1, hY.2.1, hY.2.2.1, hY.2.2.2.imp id (fun ⟨g', cap, cur, e1, e2, e3⟩ => ⟨g', cap, cur, e1, by cases e1; exact Nat.le_refl _, e3⟩)⟩ hg n2_.symm
 ·
  have h1 := Option.some.inj (show some gf = some q from hq)
  have h2 := Option.some.inj e
  omega
 ·
  exact fun e => n3_ (Option.some.inj (show some gf = some gb from e))
 ·
  exact fun e => n4_ (Option.some.inj (show some gf = some gx from e))
 ·
  exact fun e => n5_ (Option.some.inj (show some gf = some gy from e))
end
end Go.Proofs.YtmfncapgikobkaaGreat
