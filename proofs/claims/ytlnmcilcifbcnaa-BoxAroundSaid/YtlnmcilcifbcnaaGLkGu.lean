/-
  cells: the quad of place's list, plain.
  cells, the reference's Of.
  cells, the reference's Quad.
  look: a cell got, a cell set, in a list of nodes; plain.
  look: a quad's list grown; the quad of a cell set; plain.
  look: least, inside, quarter.
  look: bit, quarter, inside.
  look: Get.
  look: Get's walk down, step by step (plain).
-/
import Derived.Test.YtlnmcilcifbcnaaGClPj
import Derived.Test.YtlnmcilcifbcnaaGClRa
import Derived.Test.YtlnmcilcifbcnaaGNcRV
import Derived.Test.YtlnmcilcifbcnaaGClPl
import Derived.Test.YtlnmcilcifbcnaaGClOx
import Derived.Test.YtlnmcilcifbcnaaGClG
import Derived.Test.YtlnmcilcifbcnaaGNcLn
import Derived.Test.YtlnmcilcifbcnaaGNcAd
import Derived.Test.YtlnmcilcifbcnaaGClM
import Derived.Test.YtlnmcilcifbcnaaGNdsW
import Derived.Test.YtlnmcilcifbcnaaGLen32
import Derived.Test.YtlnmcilcifbcnaaRows
import Derived.Lib.Strings
import Derived.Lib.Slices
import Derived.Lib.Small
import Derived.Lib.Walk
import Derived.Lib.BitFns
import Derived.Deep.RegionHeld3
import Derived.Test.YtlnmcilcifbcnaaGClSo
import Derived.Test.YtlnmcilcifbcnaaGNdRLoose

set_option linter.unusedVariables false
set_option linter.unusedSimpArgs false
set_option maxRecDepth 100000
namespace Go.Proofs.Ytlnmcilcifbcnaa
open Nds
theorem place_quad {L : List Cl} {m : Nat} (hL : Fine L) (h9 : m ≤ 1328) (hin : ∀ c ∈ L, inL c (m + 1) = true) :
  okB (placeF (m + 1) [] (-p2 m) (-p2 m) L).1 (placeF (m + 1) [] (-p2 m) (-p2 m) L).2 = true ∧ QuadOf L (ofQ (placeF (m + 1) [] (-p2 m) (-p2 m) L).1 (placeF (m + 1) [] (-p2 m) (-p2 m) L).2) := by
 have hsq : ∀ c ∈ L, sqB (-p2 m) (-p2 m) (p2 (m + 1)) c = true := fun c hc => by
  have h1 := hin c hc
  unfold inL inH at h1
  simp only [Nat.add_sub_cancel, Bool.and_eq_true, decide_eq_true_iff] at h1
  have h2 := p2_succ m
  exact sq_iff.2 (by omega)
 have hp := place_spec (m + 1) [] (-p2 m) (-p2 m) L (by omega) rfl hL hsq
 obtain ⟨r, hr⟩ : ∃ r, r = placeF (m + 1) [] (-p2 m) (-p2 m) L := ⟨_, rfl⟩
 rw [← hr] at hp ⊢
 have hne : (((m + 1 : Nat)) : Int) + 1 ≠ 1 := by omega
 have hk : 0 ≤ r.2 ∧ r.2 ≤ (r.1.length : Int) := by
  rcases kid_up hne hp.kid with e | ⟨q, e, hq, _⟩
  ·
   rw [e]; omega
  ·
   rw [e]; omega
 have hok : okB r.1 r.2 = true := by
  unfold okB
  rw [hp.loose, decide_eq_true hk]
  rfl
 refine ⟨hok, ?_⟩
 unfold ofQ
 rw [if_pos hok]
 refine ofL_quadOf hp.loose (by omega) fun x y => ?_
 have hw := hp.wf
 have hc := hp.cells (x + p2 m) (y + p2 m)
 rw [kidT_den hne] at hw hc
 rw [show x + p2 m + -p2 m = x by omega, show y + p2 m + -p2 m = y by omega] at hc
 rw [← hc]
 generalize den r.1 r.2.toNat = t at hw
 cases t with
 | e => rfl
 | s k =>
  have := hw.1
  omega
 | n v a b c d =>
  have e : (((m + 1 : Nat)) : Int) = v := hw.1
  subst e
  show cellC _ _ _ = _
  rw [show (Tr.n ((m + 1 : Nat) : Int) a b c d).lv.toNat - 1 = m from by show (((m + 1 : Nat)) : Int).toNat - 1 = m; omega]
end Go.Proofs.Ytlnmcilcifbcnaa

namespace Go.Proofs.Ytlnmcilcifbcnaa
open Go.RowKit Nds Num
theorem Ns.boxed {w : World} {A A0 : Option Addr} {c n0 c0 g : Nat} {l : List Nd} {u : Value} {t : TypeId} (h : Ns w A c l) (hb : w.heap[g]? = some (.cells #[.slice A0 n0 c0] t)) : Ns (w.setCell ⟨g, 0, none⟩ u) A c l :=
 ⟨h.1, h.2.1, h.2.2.1, fun h0 => by
  obtain ⟨b, off, e, hlt, hc⟩ := h.2.2.2 h0
  have hne : b ≠ g := fun e2 => by
   subst e2
   have h1 := (hc 0 h0).1
   rw [cell_of_row w b _ _ _ (0, 0) hb] at h1
   rcases off with _ | off
   ·
    simp at h1
   ·
    simp at h1
  exact ⟨b, off, e, by simpa [World.setCell] using hlt, fun i hi => (hc i hi).below (Below.heap_setCell w ⟨g, 0, none⟩ u b hne)⟩⟩
def RetOr (l : List Cv) (w : World) (e : Ending) (w' : World) : Prop :=
 ∃ A' c' qn q er, e = .returned (.tuple #[.agg #[.slice A' qn c'], .int .i64 er]) ∧ q.length = qn ∧ Ns w' A' c' q ∧ (A' = none → c' = 0) ∧ Below w.heap.size w w' ∧
  (l.all okC = false → er = 1 ∧ q = []) ∧ (l.all okC = true → (1329 < leastF (lastF (l.map Cv.cl)) → er = 4 ∧ q = []) ∧ (leastF (lastF (l.map Cv.cl)) ≤ 1329 → er = 0 ∧ QuadOf (lastF (l.map Cv.cl)) q))
theorem ror_arg {l : List Cv} {w0 wr w5 : World} {x : Cv} (hbb : Below w0.heap.size w0 wr) (hb5 : Below wr.heap.size wr w5) (hx : x ∈ l) (hok : okC x = false) :
  RetOr l w0 (.returned (.tuple #[.agg #[.slice none 0 0], .int .i64 1])) (w5.setCell ⟨w0.heap.size, 0, none⟩ (.slice none 0 0)) := by
 refine ⟨none, 0, 0, [], 1, rfl, rfl, ns_nil _, fun _ => rfl, (hbb.trans (hb5.mono hbb.size)).setCell (Nat.le_refl _) _, fun _ => ⟨rfl, rfl⟩, fun h => ?_⟩
 have := List.all_eq_true.1 h x hx
 rw [hok] at this
 cases this
set_option maxHeartbeats 6400000 in
theorem ror_any (A : Option Addr) (c n : Nat) (l : List Cv) (w : World) (h : Cs w A c l) (hn : l.length = n) (hn9 : n ≤ 600) (hln : ∀ v ∈ l, v.xs.length ≤ 60000 ∧ v.ys.length ≤ 60000) :
  Calls Try.prog 37 #[.slice A n c] w (RetOr l w) := by
 have hcap := h.cap
 rw [hn] at hcap
 obtain ⟨W, hW⟩ : ∃ W : World, W = w.alloc (.cells #[.slice none 0 0] 31) := ⟨_, rfl⟩
 have hb : Below w.heap.size w W := by rw [hW]; exact (Below.refl _ w).alloc (Nat.le_refl _) _
 have hq : W.heap[w.heap.size]? = some (.cells #[.slice none 0 0] 31) := by rw [hW]; exact heap_alloc_new w _
 have HWL := Lib.hid (show w.heap.size < W.heap.size by rw [hW]; simp)
 have HC := Lib.hid h
 have HN := Lib.hid hn
 have HL := Lib.hid hln
 have HW := Lib.hid hW
 have HB := Lib.hid hb
 have HQ := Lib.hid hq
 clear h hn hln hW hb hq
 go_enter Try.func37, Try.ntmps37
 go_wp2_with fail
 go_loopw [4] (fun z wr => ∃ (k : Nat), k ≤ n ∧ z = .int .i64 k ∧ (∀ j, j < k → okC (cat l j) = true) ∧ Below w.heap.size w wr ∧ wr.heap[w.heap.size]? = some (.cells #[.slice none 0 0] 31)) (fun z _ => n - (intOf z).toNat)
 case atStart => exact ⟨0, by omega, rfl, fun j hj => by omega, by rw [← HW.out]; exact HB.out, by rw [← HW.out]; exact HQ.out⟩
 case round =>
  obtain ⟨k, hk, rfl, hall, hbb, hqq⟩ := hrel
  have HAL := Lib.hid hall
  have HBB := Lib.hid hbb
  have HQQ := Lib.hid hqq
  have g0 := one_cell hqq
  have g1 := one_free hqq
  by_cases hlt : k < n
  ·
   have i1 : (k : Int) < (n : Int) := by omega
   have i2 : (0 : Int) ≤ (k : Int) := by omega
   have t1 : decide ((k : Int) < (n : Int)) = true := decide_eq_true i1
   obtain ⟨b, off, rfl, hbl, hcl⟩ := (HC.out.below hbb).at_ (by rw [HN.out]; omega)
   have hcv := hcl k (by rw [HN.out]; exact hlt)
   have hxl := cat_mem (l := l) (i := k) (by rw [HN.out]; exact hlt)
   have hxu := (HC.out.below hbb).1 _ hxl
   have hln := HL.out _ hxl
   obtain ⟨x, hx⟩ : ∃ x, x = cat l k := ⟨_, rfl⟩
   rw [← hx] at hcv hxu hln hxl
   have HCV := Lib.hid hcv
   obtain ⟨c1_, c2_, c3_, c4_, c5_⟩ := hcv
   have hv1 := hxu.1.cap
   have hv2 := hxu.2.1.cap
   have HXX := Lib.hid hx
   have HXL := Lib.hid hxl
   have HLN := Lib.hid hln
   have HXU := Lib.hid hxu
   have hgl := lt_of_cell g0
   dsimp only at hgl
   obtain ⟨rX, hrX⟩ : ∃ r, r = rightI x.sx x.xs := ⟨_, rfl⟩
   obtain ⟨rY, hrY⟩ : ∃ r, r = rightI x.sy x.ys := ⟨_, rfl⟩
   have HRX := Lib.hid hrX
   have HRY := Lib.hid hrY
   have HOK := Lib.hid (show okC x = (rX && rY) by unfold okC; rw [← hrX, ← hrY])
   clear hx hxl hxu hcl hrX hrY hbb hqq hln
   cases rX with
   | false =>
    go_wp2_with (go_at_call 13; go_loud (refine (rbright_any x.sx x.ax x.cx x.xs _ HXU.out.1 HLN.out.1).mono ?_; rintro e w5 ⟨rfl, b5⟩; rw [← HRX.out]; have HB5 := Lib.hid b5; have q0 := one_cell ((b5.block w.heap.size hgl).trans HQQ.out); have q1 := one_free ((b5.block w.heap.size hgl).trans HQQ.out); clear b5))
    have e1 := World.cell?_setCell_same _ _ (.slice none 0 0) q0
    exact bodyPost_ret (v := .tuple #[.agg #[.slice none 0 0], .int .i64 1]) (by simp [results, Try.results37, go_sem, e1]) rfl (ror_arg HBB.out HB5.out HXL.out (HOK.out.trans rfl))
   | true =>
    have sX := Lib.hid True.intro
    cases rY with
    | false =>
     go_wp2_with (first
      | (have _t := sX; go_at_call 13; clear _t; go_loud (clear sX; have sY := Lib.hid True.intro; refine (rbright_any x.sx x.ax x.cx x.xs _ HXU.out.1 HLN.out.1).mono ?_; rintro e w5 ⟨rfl, b5⟩; rw [← HRX.out]; have HB5 := Lib.hid b5; have HXU5 := Lib.hid (HXU.out.below b5); obtain ⟨k0_, k1_, k2_, k3_, k4_⟩ := HCV.out.below (b5.block b (World.block_lt_of_cell? wr _ HCV.out.1)); clear b5))
      | (have _t := sY; go_at_call 13; clear _t; go_loud (clear sY; refine (rbright_any x.sy x.ay x.cy x.ys _ HXU5.out.2.1 HLN.out.2).mono ?_; rintro e w6 ⟨rfl, b6⟩; rw [← HRY.out]; have HB6 := Lib.hid (HB5.out.trans (b6.mono HB5.out.size)); have q0 := one_cell ((HB6.out.block w.heap.size hgl).trans HQQ.out); have q1 := one_free ((HB6.out.block w.heap.size hgl).trans HQQ.out); clear b6)))
     have e1 := World.cell?_setCell_same _ _ (.slice none 0 0) q0
     exact bodyPost_ret (v := .tuple #[.agg #[.slice none 0 0], .int .i64 1]) (by simp [results, Try.results37, go_sem, e1]) rfl (ror_arg HBB.out HB6.out HXL.out (HOK.out.trans rfl))
    | true =>
     go_wp2_with (first
      | (have _t := sX; go_at_call 13; clear _t; go_loud (clear sX; have sY := Lib.hid True.intro; refine (rbright_any x.sx x.ax x.cx x.xs _ HXU.out.1 HLN.out.1).mono ?_; rintro e w5 ⟨rfl, b5⟩; rw [← HRX.out]; have HB5 := Lib.hid b5; have HXU5 := Lib.hid (HXU.out.below b5); obtain ⟨k0_, k1_, k2_, k3_, k4_⟩ := HCV.out.below (b5.block b (World.block_lt_of_cell? wr _ HCV.out.1)); clear b5))
      | (have _t := sY; go_at_call 13; clear _t; go_loud (clear sY; refine (rbright_any x.sy x.ay x.cy x.ys _ HXU5.out.2.1 HLN.out.2).mono ?_; rintro e w6 ⟨rfl, b6⟩; rw [← HRY.out]; have HB6 := Lib.hid (HB5.out.trans (b6.mono HB5.out.size)); clear b6)))
     go_roundw
     case rel => exact ⟨k + 1, by omega, by go_num, fun j hj => by
      rcases Nat.lt_or_ge j k with h | h
      ·
       exact HAL.out j h
      ·
       have : j = k := by omega
       subst this
       rw [← HXX.out, HOK.out]; rfl, HBB.out.trans (HB6.out.mono HBB.out.size), (HB6.out.block w.heap.size hgl).trans HQQ.out⟩
     case measure => simp [intOf]; omega
  ·
   obtain rfl : k = n := by omega
   have t1 : decide ((k : Int) < (k : Int)) = false := decide_eq_false (by omega)
   have hok : l.all okC = true := List.all_eq_true.2 fun v hv => by
    obtain ⟨j, hj, rfl⟩ := List.getElem_of_mem hv
    have := hall j (by have := HN.out; omega)
    rwa [cat_get hj] at this
   have hR : ∀ v ∈ l, CvR v := fun v hv => by
    have h1 := List.all_eq_true.1 hok v hv
    unfold okC at h1
    obtain ⟨h2, h3⟩ := Bool.and_eq_true_iff.1 h1
    exact ⟨right_canonC h2, right_canonC h3, HL.out v hv⟩
   have HR := Lib.hid hR
   have HOKL := Lib.hid hok
   have HST := Lib.hid (show ∀ u ∈ l, u.st ≤ 255 from fun u hu => (HC.out.1 u hu).2.2)
   clear hR hok hall hbb hqq
   have hgl := lt_of_cell g0
   dsimp only at hgl
   clear g0 g1
   obtain ⟨wo, hwo⟩ : ∃ wo, wo = wr := ⟨_, rfl⟩
   subst hwo
   go_wp2_with (go_at_call 23; go_loud (refine (rclast_any A c k l _ (HC.out.below HBB.out) HN.out HR.out (by omega)).mono ?_; rintro e w5 ⟨v5, M, rfl, ml5, in5, o5, b5⟩; obtain ⟨A5, c5, hv5, cs5, -, -⟩ := o5.cs (fun u hu => ((HC.out.below HBB.out).below b5).1 u (in5 u hu)); obtain ⟨p, hp⟩ : ∃ p, M.length = p := ⟨_, rfl⟩; rw [hp] at hv5; subst hv5; have cp5 := cs5.cap; rw [hp] at cp5; have hp9 := (show p ≤ 600 by have h1 := congrArg List.length ml5; rw [List.length_map] at h1; have h2 := lastF_le (l.map Cv.cl); rw [List.length_map, HN.out] at h2; omega); have HPL := Lib.hid hp; have CS5 := Lib.hid cs5; have IN5 := Lib.hid in5; have ML5 := Lib.hid ml5; have B5 := Lib.hid b5; have Q5 := Lib.hid ((b5.block w.heap.size hgl).trans HQQ.out); clear ml5 in5 o5 b5 cs5 hp))
   go_loopw [7, 6] (fun z z6 wr => ∃ (i lv : Nat), i ≤ p ∧ z = .int .i64 i ∧ z6 = .int .i64 lv ∧ lv = leastF ((M.take i).map Cv.cl) ∧ 1 ≤ lv ∧ lv ≤ 1330 ∧ Below w5.heap.size w5 wr) (fun z _ _ => p - (intOf z).toNat)
   case atStart => exact ⟨0, 1, by omega, rfl, rfl, rfl, by omega, by omega, Below.refl _ _⟩
   case round =>
    obtain ⟨i, lv, hi, rfl, rfl, hlv, hl1, hl2, hbr⟩ := hrel
    have HLV := Lib.hid hlv
    have HBR := Lib.hid hbr
    clear hlv hbr
    by_cases hip : i < p
    ·
     have t2 : decide ((i : Int) < (p : Int)) = true := decide_eq_true (by omega)
     have j1 : (0 : Int) ≤ (i : Int) := by omega
     have j2 : (i : Int) < (p : Int) := by omega
     obtain ⟨wi, hwi⟩ : ∃ wi, wi = wr := ⟨_, rfl⟩
     subst hwi
     obtain ⟨x, hx⟩ : ∃ x, x = cat M i := ⟨_, rfl⟩
     have hxm : x ∈ M := by rw [hx]; exact cat_mem (by rw [HPL.out]; exact hip)
     have HXM := Lib.hid hxm
     have HX_ := Lib.hid hx
     have hxr := HR.out x (IN5.out x hxm)
     have HXR := Lib.hid hxr
     obtain ⟨b, off, rfl, hb5, hcl5⟩ := CS5.out.at_ (by rw [HPL.out]; omega)
     have hcv := hcl5 i (by rw [HPL.out]; exact hip)
     rw [← hx] at hcv
     have HCV := Lib.hid hcv
     clear hx hxm hxr hcl5 hcv
     go_wp2_with fail
     go_loopw [6] (fun z wq => ∃ (lw : Nat), z = .int .i64 lw ∧ lv ≤ lw ∧ lw ≤ 1330 ∧ upL x.cl lw = upL x.cl lv ∧ Below w5.heap.size w5 wq) (fun z _ => 1331 - (intOf z).toNat)
     case atStart => exact ⟨lv, rfl, Nat.le_refl _, hl2, rfl, HBR.out⟩
     case round =>
      obtain ⟨lw, rfl, hw1, hw2, hup, hbq⟩ := hrel
      have HUP := Lib.hid hup
      have HBQ := Lib.hid hbq
      obtain ⟨f1, f2, f3, f4, f5⟩ := HCV.out.below (hbq.block b (World.block_lt_of_cell? w5 _ HCV.out.1))
      have hxu := (CS5.out.below hbq).1 x HXM.out
      have HXU := Lib.hid hxu
      have hv1 := hxu.1.cap
      have hv2 := hxu.2.1.cap
      clear hup hbq hxu
      by_cases h9 : lw ≤ 1329
      ·
       have t3 : decide ((lw : Int) ≤ 1329) = true := decide_eq_true (by omega)
       have t33 : decide (lw ≤ 1329) = true := decide_eq_true h9
       obtain ⟨bw, hbw⟩ : ∃ bw, bw = inL x.cl lw := ⟨_, rfl⟩
       have HBW := Lib.hid hbw
       clear hbw
       cases bw with
       | true =>
        go_wp2_with (go_at_call 74; go_loud (refine (rwithin_any x lw _ HXU.out HXR.out.2.2.1 HXR.out.2.2.2 (by omega) (by omega)).mono ?_; rintro e w7 ⟨rfl, b7⟩; rw [← HBW.out]; have B7 := Lib.hid (HBQ.out.trans (b7.mono HBQ.out.size)); clear b7))
        go_roundw
        case rel =>
         refine ⟨i + 1, lw, by omega, by go_num, rfl, ?_, by omega, by omega, B7.out⟩
         rw [leastF_take (by rw [HPL.out]; exact hip), ← HX_.out, ← HLV.out, ← HUP.out, upL_stop HBW.out.symm]
        case measure => simp [intOf]; omega
       | false =>
        go_wp2_with (go_at_call 74; go_loud (refine (rwithin_any x lw _ HXU.out HXR.out.2.2.1 HXR.out.2.2.2 (by omega) (by omega)).mono ?_; rintro e w7 ⟨rfl, b7⟩; rw [← HBW.out]; have B7 := Lib.hid (HBQ.out.trans (b7.mono HBQ.out.size)); clear b7))
        go_roundw
        case rel =>
         refine ⟨lw + 1, by go_num, by omega, by omega, ?_, B7.out⟩
         rw [← HUP.out, upL_next h9 HBW.out.symm]
        case measure => simp [intOf]; omega
      ·
       have t3 : decide ((lw : Int) ≤ 1329) = false := decide_eq_false (by omega)
       have t33 : decide (lw ≤ 1329) = false := decide_eq_false h9
       clear f1 f2 f3 f4 f5
       go_wp2_with fail
       go_roundw
       case rel =>
        refine ⟨i + 1, lw, by omega, by go_num, rfl, ?_, by omega, by omega, HBQ.out⟩
        rw [leastF_take (by rw [HPL.out]; exact hip), ← HX_.out, ← HLV.out, ← HUP.out, upL_top h9]
       case measure => simp [intOf]; omega
    ·
     obtain rfl : i = p := by omega
     have t2 : decide ((i : Int) < (i : Int)) = false := decide_eq_false (by omega)
     have hlv := HLV.out
     rw [List.take_of_length_le (by rw [HPL.out]; exact Nat.le_refl _), ML5.out] at hlv
     have HLV := Lib.hid hlv
     have HQ6 := Lib.hid ((HBR.out.block w.heap.size (Nat.lt_of_lt_of_le hgl B5.out.size)).trans Q5.out)
     have q0 := one_cell HQ6.out
     have q1 := one_free HQ6.out
     have HBW := Lib.hid ((HBB.out.trans (B5.out.mono HBB.out.size)).trans (HBR.out.mono (Nat.le_trans HBB.out.size B5.out.size)))
     clear hlv
     by_cases hbig : 1329 < lv
     ·
      have t3 : decide ((lv : Int) > 1329) = true := decide_eq_true (by omega)
      have t4 : decide (1329 < (lv : Int)) = true := t3
      have t5 : decide (1329 < lv) = true := decide_eq_true hbig
      go_wp2_with fail
      have e1 := World.cell?_setCell_same _ _ (.slice none 0 0) q0
      refine bodyPost_ret (v := .tuple #[.agg #[.slice none 0 0], .int .i64 4]) (by simp [results, Try.results37, go_sem, e1]) rfl ?_
      refine ⟨none, 0, 0, [], 4, rfl, rfl, ns_nil _, fun _ => rfl, HBW.out.setCell (Nat.le_refl _) _, fun h => ?_, fun _ => ⟨fun _ => ⟨rfl, rfl⟩, fun h => ?_⟩⟩
      ·
       rw [HOKL.out] at h; cases h
      ·
       have := HLV.out; omega
     ·
      have t3 : decide ((lv : Int) > 1329) = false := decide_eq_false (by omega)
      have t4 : decide (1329 < (lv : Int)) = false := t3
      have t5 : decide (1329 < lv) = false := decide_eq_false hbig
      obtain ⟨m, hm⟩ : ∃ m, lv = m + 1 := ⟨lv - 1, by omega⟩
      subst hm
      have hm9 : m ≤ 1328 := by omega
      have em : (((m + 1 : Nat)) : Int) = (m : Int) + 1 := by omega
      rw [em] at t3 t4 ⊢
      have hq1 := p2_mono (show m + 1 ≤ 1329 by omega)
      have hq2 := p2_pos m
      have hq3 := p2_succ m
      have hq4 : p2 1330 = p2 1329 + p2 1329 := p2_succ 1329
      have HPM := Lib.hid (show -p2 1330 ≤ p2 m ∧ p2 m ≤ p2 1330 from ⟨by omega, by omega⟩)
      have HPC := Lib.hid (show -p2 1329 ≤ -p2 m ∧ -p2 m + p2 (m + 1) ≤ p2 1329 from ⟨by omega, by omega⟩)
      have CS6 := Lib.hid (CS5.out.below HBR.out)
      clear hq1 hq2 hq3 hq4 em hbig
      have hfine : Fine (M.map Cv.cl) := by
       rw [ML5.out]
       exact lastF_fine fun c hc => by
        obtain ⟨u, hu, rfl⟩ := List.mem_map.1 hc
        have h1 := HST.out u hu
        show 0 ≤ (u.st : Int) ∧ (u.st : Int) ≤ 255
        omega
      have hpq := place_quad hfine hm9 (fun c hc => by
       obtain ⟨u, hu, rfl⟩ := List.mem_map.1 hc
       exact of_in ML5.out HLV.out (by omega) hu)
      have hpl := place_len (m + 1) [] (-p2 m) (-p2 m) (M.map Cv.cl)
      rw [List.length_nil, Nat.zero_add, List.length_map, HPL.out] at hpl
      have hmul : (m + 1) * i ≤ 1329 * 600 := Nat.mul_le_mul (by omega) hp9
      obtain ⟨N, hN⟩ : ∃ N, N = (placeF (m + 1) [] (-p2 m) (-p2 m) (M.map Cv.cl)).1 := ⟨_, rfl⟩
      obtain ⟨r, hr⟩ : ∃ r, r = (placeF (m + 1) [] (-p2 m) (-p2 m) (M.map Cv.cl)).2 := ⟨_, rfl⟩
      rw [← hN, ← hr] at hpq
      rw [← hN] at hpl
      obtain ⟨nn, hnn⟩ : ∃ nn, N.length = nn := ⟨_, rfl⟩
      have hnn9 : nn ≤ 797400 := by omega
      obtain ⟨q, hq⟩ : ∃ q, q = ofQ N r := ⟨_, rfl⟩
      have HQL := Lib.hid (ofQ_len N r)
      have HOE := Lib.hid (show ofE N r = 0 by unfold ofE; rw [if_pos hpq.1])
      have HQO := Lib.hid (show QuadOf (lastF (l.map Cv.cl)) q by rw [hq, ← ML5.out]; exact hpq.2)
      have HRB := Lib.hid (show 0 ≤ r ∧ r ≤ (nn : Int) by
       have h1 := hpq.1
       unfold okB at h1
       rw [Bool.and_eq_true, decide_eq_true_iff, hnn] at h1
       exact h1.2)
      have HNN := Lib.hid hnn
      have HN_ := Lib.hid hN
      have HR_ := Lib.hid hr
      have HQ_ := Lib.hid hq
      clear hN hr hq hnn hpq hpl hmul hfine
      go_wp2_with (first
       | (go_at_call 36; go_loud (refine (rbpow_any _ _).mono ?_; rintro e w9 ⟨A9, c9, s9, r9, rfl, u9, k9, v9, b9⟩; rw [pow_p2 m (by omega)] at v9; have L9 := Lib.hid (len_near k9 v9 HPM.out.1 HPM.out.2); have hcap9 := u9.cap; have U9 := Lib.hid u9; have V9 := Lib.hid v9; have B9 := Lib.hid b9; clear u9 k9 v9 b9))
       | (go_at_call 66; go_loud (refine (rminus_any s9 A9 c9 r9 _ U9.out (by have := L9.out; omega)).mono ?_; rintro e w10 ⟨A0, c0, s0, r0, rfl, u0, k0, v0, b0⟩; rw [V9.out] at v0; have hcap0 := u0.cap; have U0 := Lib.hid u0; have K0 := Lib.hid k0; have V0 := Lib.hid v0; have B0 := Lib.hid (B9.out.trans (b0.mono B9.out.size)); have BL := Lib.hid ((Below.refl w10.heap.size w10).alloc (Nat.le_refl _) (.cells #[.bool s0, .slice A0 r0.length c0] 25)); have hx := (show HX (w10.alloc (.cells #[.bool s0, .slice A0 r0.length c0] 25)) w10.heap.size s0 A0 c0 r0 (-p2 m) from ⟨heap_alloc_new w10 _, U0.out.below BL.out, K0.out, V0.out, fun h0 a ea => by have := us_lt U0.out h0 a ea; omega⟩); have x0 := hx.c0; have x1 := hx.c1; have HXX := Lib.hid hx; clear hx u0 k0 v0 b0))
       | (go_at_call 75; go_loud (refine (rplace_rec w10.heap.size m [] (.slice none 0 0) s0 A0 c0 r0 s0 A0 c0 r0 (-p2 m) (-p2 m) _ _ i M _ hm9 (ownN_none _ _) (by simp) HXX.out.us HXX.out.us HXX.out.cn HXX.out.cn HXX.out.v HXX.out.v HPC.out.1 HPC.out.2 HPC.out.1 HPC.out.2 ((CS6.out.below B0.out).below BL.out) HPL.out (fun u hu => HR.out u (IN5.out u hu)) ⟨(fun q h => by simp [Value.ownBlock] at h), (fun h0 a ea => ⟨us_lt HXX.out.us h0 a ea, by simp [Value.ownBlock]⟩), (fun h0 a ea => ⟨us_lt HXX.out.us h0 a ea, by simp [Value.ownBlock]⟩), (fun u hu => ⟨fun h0 a ea => ⟨us_lt (((CS6.out.below B0.out).below BL.out).1 u hu).1 h0 a ea, by simp [Value.ownBlock]⟩, fun h0 a ea => ⟨us_lt (((CS6.out.below B0.out).below BL.out).1 u hu).2.1 h0 a ea, by simp [Value.ownBlock]⟩⟩), (fun h0 a ea => ⟨by obtain ⟨b8, o8, e8, h8, -⟩ := ((CS6.out.below B0.out).below BL.out).at_ h0; rw [ea] at e8; cases e8; exact h8, by simp [Value.ownBlock]⟩)⟩ (by have h1 : (m + 1) * i ≤ 1329 * 600 := Nat.mul_le_mul (by omega) hp9; simp; omega)).mono ?_; rintro e w11 ⟨v11, rfl, o11, -, ky11⟩; rw [← HN_.out] at o11; rw [← HR_.out]; obtain ⟨A11, c11, hv11, ns11, na11, -⟩ := o11.shape; rw [HNN.out] at hv11; subst hv11; have cp11 := ns11.cap; rw [HNN.out] at cp11; have NS11 := Lib.hid ns11; have NA11 := Lib.hid na11; have B11 := Lib.hid ((B0.out.trans (BL.out.mono B0.out.size)).trans ((ky11.to (Nat.le_refl _) (fun q h => by simp [Value.ownBlock] at h)).mono (Nat.le_trans B0.out.size BL.out.size))); clear o11 ns11 na11 ky11))
       | (go_at_call 21; go_loud (refine (rof_at A11 c11 nn N r q q.length 0 _ NS11.out HNN.out (by omega) NA11.out HQ_.out.symm rfl HOE.out).mono ?_; rintro e w12 ⟨A12, c12, rfl, n12, a12, b12⟩; have hc12 := n12.cap; have N12 := Lib.hid n12; have A12' := Lib.hid a12; have B12 := Lib.hid (B11.out.trans (b12.mono B11.out.size)); have Q12 := Lib.hid ((B12.out.block w.heap.size (Array.getElem?_eq_some_iff.1 HQ6.out).1).trans HQ6.out); have q2 := one_cell Q12.out; have q3 := one_free Q12.out; clear n12 a12 b12 q0 q1)))
      have e1 := World.cell?_setCell_same _ _ (.slice A12 q.length c12) q2
      refine bodyPost_ret (v := .tuple #[.agg #[.slice A12 q.length c12], .int .i64 0]) (by simp [results, Try.results37, go_sem, e1]) rfl ?_
      refine ⟨A12, c12, _, q, 0, rfl, rfl, N12.out.boxed Q12.out, A12'.out, (HBW.out.trans (B12.out.mono HBW.out.size)).setCell (Nat.le_refl _) _, fun h => ?_, fun _ => ⟨fun h => ?_, fun _ => ⟨rfl, HQO.out⟩⟩⟩
      ·
       rw [HOKL.out] at h; cases h
      ·
       have := HLV.out; omega
end Go.Proofs.Ytlnmcilcifbcnaa

namespace Go.Proofs.Ytlnmcilcifbcnaa
open Go.RowKit Nds Num
theorem great_lens {l : List Cv} {most : Int} (h : greatB l most = false) : (l.length : Int) ≤ most ∧ ∀ v ∈ l, v.xs.length ≤ 50 ∧ v.ys.length ≤ 50 := by
 unfold greatB at h
 rw [Bool.or_eq_false_iff, decide_eq_false_iff_not] at h
 refine ⟨by omega, fun v hv => ?_⟩
 have h2 := List.any_eq_false.1 h.2 v hv
 unfold vast at h2
 rw [Bool.or_eq_true, decide_eq_true_iff, decide_eq_true_iff] at h2
 omega
def mayB (l : List Cv) (most : Int) : Bool := !greatB l most && l.all okC && decide (leastF (lastF (l.map Cv.cl)) ≤ 1329)
theorem may_great {l : List Cv} {most : Int} (h : greatB l most = true) : mayB l most = false := by unfold mayB; rw [h]; rfl
theorem may_iff {l : List Cv} {most : Int} : mayB l most = true ↔ greatB l most = false ∧ l.all okC = true ∧ leastF (lastF (l.map Cv.cl)) ≤ 1329 := by
 unfold mayB
 rw [Bool.and_eq_true, Bool.and_eq_true, decide_eq_true_iff, and_assoc]
 simp
theorem may_R {l : List Cv} {most : Int} (h : mayB l most = true) : (l.length : Int) ≤ most ∧ ∀ v ∈ l, CvR v := by
 obtain ⟨h1, h2, -⟩ := may_iff.1 h
 obtain ⟨h3, h4⟩ := great_lens h1
 refine ⟨h3, fun v hv => ?_⟩
 have h5 := List.all_eq_true.1 h2 v hv
 unfold okC at h5
 rw [Bool.and_eq_true] at h5
 have h6 := h4 v hv
 exact ⟨right_canonC h5.1, right_canonC h5.2, by omega, by omega⟩
def RetQr (l : List Cv) (most : Int) (w : World) (e : Ending) (w' : World) : Prop :=
 ∃ A' c' qn q ok, e = .returned (.tuple #[.agg #[.slice A' qn c'], .bool ok]) ∧ q.length = qn ∧ Ns w' A' c' q ∧ (A' = none → c' = 0) ∧ Below w.heap.size w w' ∧ ok = mayB l most ∧ (ok = false → q = []) ∧ (ok = true → QuadOf (lastF (l.map Cv.cl)) q)
set_option maxHeartbeats 3200000 in
theorem rquad_any (A : Option Addr) (c n : Nat) (most : Int) (l : List Cv) (w : World) (h : Cs w A c l) (hn : l.length = n) (hm : most ≤ 600) :
  Calls Try.prog 11 #[.slice A n c, .int .i64 most] w (RetQr l most w) := by
 have hcap := h.cap
 rw [hn] at hcap
 obtain ⟨W, hW⟩ : ∃ W : World, W = w.alloc (.cells #[.slice none 0 0] 31) := ⟨_, rfl⟩
 have hb : Below w.heap.size w W := by rw [hW]; exact (Below.refl _ w).alloc (Nat.le_refl _) _
 have hq : W.heap[w.heap.size]? = some (.cells #[.slice none 0 0] 31) := by rw [hW]; exact heap_alloc_new w _
 have hWL : w.heap.size < W.heap.size := by rw [hW]; simp
 have HC := Lib.hid (h.below hb)
 have HN := Lib.hid hn
 have HW := Lib.hid hW
 have HB := Lib.hid hb
 have HQ := Lib.hid hq
 clear h hn hW hb hq
 cases hg : greatB l most with
 | true =>
  have HG := Lib.hid hg
  clear hg
  go_enter Try.func11, Try.ntmps11
  go_wp2_with (go_at_call 12; go_loud (rw [← HW.out]; refine (cgreat_any A c n most l _ HC.out HN.out).mono ?_; rintro e w2 ⟨rfl, m2, hw2⟩; rw [HG.out]; have B2 := Lib.hid (show Below W.heap.size W w2 by rw [hw2]; exact below_drewN (Below.refl _ _) m2); have Q2 := Lib.hid ((B2.out.block w.heap.size hWL).trans HQ.out); have q0 := one_cell Q2.out; have q1 := one_free Q2.out; clear hw2))
  have e1 := World.cell?_setCell_same _ _ (.slice none 0 0) q0
  refine bodyPost_ret (v := .tuple #[.agg #[.slice none 0 0], .bool false]) (by simp [results, Try.results11, go_sem, e1]) rfl ?_
  exact ⟨none, 0, 0, [], false, rfl, rfl, ns_nil _, fun _ => rfl, (HB.out.trans (B2.out.mono HB.out.size)).setCell (Nat.le_refl _) _, (may_great HG.out).symm, fun _ => rfl, fun e => by cases e⟩
 | false =>
  obtain ⟨hn9, hlen⟩ := great_lens hg
  rw [HN.out] at hn9
  have HG := Lib.hid hg
  have HLN := Lib.hid hlen
  have hn6 : n ≤ 600 := by omega
  clear hg hlen
  go_enter Try.func11, Try.ntmps11
  go_wp2_with (first
   | (go_at_call 12; go_loud (rw [← HW.out]; refine (cgreat_any A c n most l _ HC.out HN.out).mono ?_; rintro e w2 ⟨rfl, m2, hw2⟩; rw [HG.out]; have B2 := Lib.hid (show Below W.heap.size W w2 by rw [hw2]; exact below_drewN (Below.refl _ _) m2); clear hw2))
   | (go_at_call 37; go_loud (refine (ror_any A c n l _ (HC.out.below B2.out) HN.out hn6 (fun v hv => ⟨Nat.le_trans (HLN.out v hv).1 (by omega), Nat.le_trans (HLN.out v hv).2 (by omega)⟩)).mono ?_; rintro e w3 ⟨A3, c3, qn, q, er, rfl, l3, n3, a3, b3, u3, u4⟩; have B3 := Lib.hid (B2.out.trans (b3.mono B2.out.size)); have BL := Lib.hid ((Below.refl w3.heap.size w3).alloc (Nat.le_refl _) (.cells #[.slice A3 qn c3] 31)); have Q3 := Lib.hid (((B3.out.trans (BL.out.mono B3.out.size)).block w.heap.size hWL).trans HQ.out); have q0 := one_cell Q3.out; have q1 := one_free Q3.out; have y0 := one_cell (heap_alloc_new w3 (.cells #[.slice A3 qn c3] 31)); have L3 := Lib.hid l3; have N3 := Lib.hid (n3.below BL.out); have A3' := Lib.hid a3; have U3 := Lib.hid u3; have U4 := Lib.hid u4; clear l3 n3 a3 b3 u3 u4)))
  have e1 := World.cell?_setCell_same _ _ (.slice A3 qn c3) q0
  refine bodyPost_ret (v := .tuple #[.agg #[.slice A3 qn c3], .bool (er == 0)]) (by simp [results, Try.results11, go_sem, e1]) rfl ?_
  have hbb := HB.out.trans ((B3.out.trans (BL.out.mono B3.out.size)).mono HB.out.size)
  refine ⟨A3, c3, qn, q, _, rfl, L3.out, N3.out.boxed Q3.out, A3'.out, hbb.setCell (Nat.le_refl _) _, ?_, ?_, ?_⟩
  all_goals
   cases hok : l.all okC with
   | false =>
    obtain ⟨rfl, rfl⟩ := U3.out hok
    simp [mayB, hok]
   | true =>
    by_cases h9 : leastF (lastF (l.map Cv.cl)) ≤ 1329
    ·
     obtain ⟨rfl, h4⟩ := (U4.out hok).2 h9
     first
      | (simp [mayB, hok, h9, HG.out]; done)
      | exact fun _ => h4
    ·
     obtain ⟨rfl, rfl⟩ := (U4.out hok).1 (by omega)
     simp [mayB, hok, h9]
end Go.Proofs.Ytlnmcilcifbcnaa

namespace Go.Proofs.Ytlnmcilcifbcnaa
open Nds
theorem kid_wf {l : List Nd} (hl : looseB l = true) : ∀ {m : Nat} {k : Int}, kidB l ((m : Int) + 1) k = true → wfT (m : Int) (kidT (dens l) ((m : Int) + 1) k)
 | 0, k, hk => by
  have h : kidB l 1 k = true := hk
  rw [kidB_one, decide_eq_true_iff] at h
  exact wf_st h
 | m + 1, k, hk => by
  have hne : (((m + 1 : Nat)) : Int) + 1 ≠ 1 := by omega
  rcases kid_up hne hk with rfl | ⟨p, rfl, hp, hlv⟩
  ·
   rw [kidT_zero]
   trivial
  ·
   rw [kidT_den hne, show ((p : Int) + 1).toNat = p + 1 by omega]
   have h := wf_den hl p hp
   rwa [hlv, show (((m + 1 : Nat)) : Int) + 1 - 1 = ((m + 1 : Nat) : Int) by omega] at h
theorem cell_out {t : Tr} {n : Nat} {x y : Int} (hw : wfT (n : Int) t) (h : ¬ (0 ≤ x ∧ x < p2 n ∧ 0 ≤ y ∧ y < p2 n)) : cellC t x y = 0 :=
 Classical.byContradiction fun h2 => h (cell_in t n x y hw h2)
def qtI (h x y : Int) : Nat := (if x < h then 0 else 1) + (if y < h then 0 else 2)
def subI (h x : Int) : Int := if x < h then x else x - h
theorem qtI_lt (h x y : Int) : qtI h x y < 4 := by
 unfold qtI
 split <;> split <;> omega
def chK (x : Nd) (i : Nat) (u : Int) : Nd := match i with | 0 => { x with a := u } | 1 => { x with b := u } | 2 => { x with c := u } | _ => { x with d := u }
theorem chK_lv (x : Nd) (i : Nat) (u : Int) : (chK x i u).lv = x.lv := by
 unfold chK
 split <;> rfl
theorem chK_kid (x : Nd) {i : Nat} (hi : i < 4) (u : Int) {j : Nat} (hj : j < 4) : (chK x i u).kid j = if j = i then u else x.kid j := by
 match i, hi, j, hj with
 | 0, _, 0, _ => rfl
 | 0, _, 1, _ => rfl
 | 0, _, 2, _ => rfl
 | 0, _, 3, _ => rfl
 | 1, _, 0, _ => rfl
 | 1, _, 1, _ => rfl
 | 1, _, 2, _ => rfl
 | 1, _, 3, _ => rfl
 | 2, _, 0, _ => rfl
 | 2, _, 1, _ => rfl
 | 2, _, 2, _ => rfl
 | 2, _, 3, _ => rfl
 | 3, _, 0, _ => rfl
 | 3, _, 1, _ => rfl
 | 3, _, 2, _ => rfl
 | 3, _, 3, _ => rfl
def nodeF (m : Nat) (l : List Nd) (n : Int) : Nd := if n = 0 then ⟨(m : Int) + 1, 0, 0, 0, 0⟩ else at_ l (n - 1).toNat
theorem node_fit {l : List Nd} (hl : looseB l = true) {m : Nat} (hm : m ≤ 1328) {n : Int} (hn : kidB l (((m + 1 : Nat)) + 1 : Int) n = true) : fitB l (nodeF m l n) = true ∧ (nodeF m l n).lv = (m : Int) + 1 ∧ kidT (dens l) (((m + 1 : Nat)) + 1 : Int) n = norm (dens l) (nodeF m l n) := by
 have hne : (((m + 1 : Nat)) : Int) + 1 ≠ 1 := by omega
 unfold nodeF
 rcases kid_up hne hn with rfl | ⟨p, rfl, hp, hlv⟩
 ·
  rw [if_pos rfl, kidT_zero]
  have hk : ∀ v : Int, 1 ≤ v → kidB l v 0 = true := fun v hv => by
   by_cases h1 : v = 1
   ·
    rw [h1, kidB_one]; rfl
   ·
    exact kidB_zero _ _ h1
  refine ⟨?_, rfl, ?_⟩
  ·
   unfold fitB Nd.each
   rw [decide_eq_true (show 1 ≤ (m : Int) + 1 ∧ (m : Int) + 1 ≤ 1329 by omega)]
   show (true && (kidB l ((m : Int) + 1) 0 && kidB l ((m : Int) + 1) 0 && kidB l ((m : Int) + 1) 0 && kidB l ((m : Int) + 1) 0)) = true
   rw [hk _ (by omega)]
   rfl
  ·
   show _ = mk _ (kidT (dens l) ((m : Int) + 1) 0) (kidT (dens l) ((m : Int) + 1) 0) (kidT (dens l) ((m : Int) + 1) 0) (kidT (dens l) ((m : Int) + 1) 0)
   rw [kidT_zero]
   rfl
 ·
  rw [if_neg (by omega), show ((p : Int) + 1 - 1).toNat = p by omega]
  refine ⟨loose_fit hl hp, by omega, ?_⟩
  rw [kidT_den hne, show ((p : Int) + 1).toNat = p + 1 by omega, den_loose hl hp]
theorem norm_lv' {l : List Nd} {x : Nd} {m : Nat} (h : x.lv = (m : Int) + 1) : norm (dens l) x = mk ((m : Int) + 1) (kidT (dens l) ((m : Int) + 1) (x.kid 0)) (kidT (dens l) ((m : Int) + 1) (x.kid 1)) (kidT (dens l) ((m : Int) + 1) (x.kid 2)) (kidT (dens l) ((m : Int) + 1) (x.kid 3)) := by
 unfold norm
 rw [h]
 rfl
def getF : Nat → List Nd → Int → Int → Int → Int
 | 0, _, n, _, _ => n
 | m + 1, l, n, x, y => if n = 0 then 0 else getF m l ((nodeF m l n).kid (qtI (p2 m) x y)) (subI (p2 m) x) (subI (p2 m) y)
theorem get_spec {l : List Nd} (hl : looseB l = true) : ∀ {m : Nat} {n x y : Int}, m ≤ 1329 → kidB l ((m : Int) + 1) n = true → 0 ≤ x → x < p2 m → 0 ≤ y → y < p2 m → getF m l n x y = cellC (kidT (dens l) ((m : Int) + 1) n) x y
 | 0, n, x, y, _, hn, hx0, hx, hy0, hy => by
  rw [p2_zero] at hx hy
  obtain rfl : x = 0 := by omega
  obtain rfl : y = 0 := by omega
  show n = cellC (st n) 0 0
  unfold st
  split
  ·
   rename_i h; rw [h]; rfl
  ·
   rfl
 | m + 1, n, x, y, hm, hn, hx0, hx, hy0, hy => by
  obtain ⟨h1, h2, h3⟩ := node_fit hl (by omega) hn
  have hw : ∀ i, i < 4 → wfT (m : Int) (kidT (dens l) ((m : Int) + 1) ((nodeF m l n).kid i)) := fun i hi => kid_wf hl (by have := fit_kid h1 hi; rwa [h2] at this)
  have hk : ∀ i, i < 4 → kidB l ((m : Int) + 1) ((nodeF m l n).kid i) = true := fun i hi => by have := fit_kid h1 hi; rwa [h2] at this
  have hp := p2_succ m
  have hp1 := p2_pos m
  unfold getF
  rw [h3, norm_lv' h2, cell_mk (hw 0 (by omega)) (hw 1 (by omega)) (hw 2 (by omega)) (hw 3 (by omega))]
  by_cases hn0 : n = 0
  ·
   rw [if_pos hn0]
   have e : nodeF m l n = ⟨(m : Int) + 1, 0, 0, 0, 0⟩ := by unfold nodeF; rw [if_pos hn0]
   rw [e]
   show (0 : Int) = cellC (kidT (dens l) _ 0) _ _ + cellC (kidT (dens l) _ 0) _ _ + cellC (kidT (dens l) _ 0) _ _ + cellC (kidT (dens l) _ 0) _ _
   rw [kidT_zero]
   rfl
  ·
   rw [if_neg hn0]
   unfold qtI subI
   by_cases hx1 : x < p2 m
   ·
    by_cases hy1 : y < p2 m
    ·
     simp only [hx1, hy1, if_true]
     rw [get_spec hl (by omega) (hk _ (by omega)) hx0 hx1 hy0 hy1, cell_out (hw 1 (by omega)) (by omega), cell_out (hw 2 (by omega)) (by omega), cell_out (hw 3 (by omega)) (by omega)]
     simp
    ·
     simp only [hx1, hy1, if_true, if_false]
     rw [get_spec hl (by omega) (hk _ (by omega)) hx0 hx1 (by omega) (by omega), cell_out (hw 0 (by omega)) (by omega), cell_out (hw 1 (by omega)) (by omega), cell_out (hw 3 (by omega)) (by omega)]
     simp
   ·
    by_cases hy1 : y < p2 m
    ·
     simp only [hx1, hy1, if_true, if_false]
     rw [get_spec hl (by omega) (hk _ (by omega)) (by omega) (by omega) hy0 hy1, cell_out (hw 0 (by omega)) (by omega), cell_out (hw 2 (by omega)) (by omega), cell_out (hw 3 (by omega)) (by omega)]
     simp
    ·
     simp only [hx1, hy1, if_false]
     rw [get_spec hl (by omega) (hk _ (by omega)) (by omega) (by omega) (by omega) (by omega), cell_out (hw 0 (by omega)) (by omega), cell_out (hw 1 (by omega)) (by omega), cell_out (hw 2 (by omega)) (by omega)]
     simp
end Go.Proofs.Ytlnmcilcifbcnaa

namespace Go.Proofs.Ytlnmcilcifbcnaa
open Nds
theorem cellM_wf {m : Nat} {t : Tr} (h : wfT ((m + 1 : Nat) : Int) t) (x y : Int) : cellM t x y = cellC t (x + p2 m) (y + p2 m) := by
 cases t with
 | e => rfl
 | s k =>
  have := h.1
  omega
 | n v a b c d =>
  have e : (((m + 1 : Nat)) : Int) = v := h.1
  subst e
  show cellC _ _ _ = _
  rw [show (Tr.n ((m + 1 : Nat) : Int) a b c d).lv.toNat - 1 = m from by show (((m + 1 : Nat)) : Int).toNat - 1 = m; omega]
def wdK (l : List Nd) (t : Nd) : Nat → List Nd × Nd
 | 0 => (l, ⟨t.lv + 1, 0, 0, 0, 0⟩)
 | k + 1 => if t.kid k = 0 then wdK l t k else ((wdK l t k).1 ++ [chK ⟨t.lv, 0, 0, 0, 0⟩ (3 - k) (t.kid k)], chK (wdK l t k).2 k (((wdK l t k).1.length + 1 : Nat) : Int))
def wideF (l : List Nd) : List Nd := (wdK l (at_ l (l.length - 1)) 4).1 ++ [(wdK l (at_ l (l.length - 1)) 4).2]
def corT (m j : Nat) (K : Tr) : Tr := mk ((m : Int) + 1) (if j = 3 then K else .e) (if j = 2 then K else .e) (if j = 1 then K else .e) (if j = 0 then K else .e)
theorem cor_e (m j : Nat) : corT m j .e = .e := by
 unfold corT
 simp only [ite_self]
 rfl
theorem cor_cells {m j : Nat} {K : Tr} (hK : wfT (m : Int) K) (hj : j < 4) (u v : Int) : cellC (corT m j K) u v = cellC K (u - offX m (3 - j)) (v - offY m (3 - j)) := by
 have we : wfT (m : Int) .e := trivial
 unfold corT
 match j, hj with
 | 0, _ =>
  rw [cell_mk (by simpa using we) (by simpa using we) (by simpa using we) (by simpa using hK)]
  simp [cellC_e, offX, offY]
 | 1, _ =>
  rw [cell_mk (by simpa using we) (by simpa using we) (by simpa using hK) (by simpa using we)]
  simp [cellC_e, offX, offY]
 | 2, _ =>
  rw [cell_mk (by simpa using we) (by simpa using hK) (by simpa using we) (by simpa using we)]
  simp [cellC_e, offX, offY]
 | 3, _ =>
  rw [cell_mk (by simpa using hK) (by simpa using we) (by simpa using we) (by simpa using we)]
  simp [cellC_e, offX, offY]
structure Wds (l : List Nd) (t : Nd) (m k : Nat) (o : List Nd) (x : Nd) : Prop where
 loose : looseB o = true
 pre : l <+: o
 len : o.length ≤ l.length + k
 lv : x.lv = (m : Int) + 1 + 1
 zero : ∀ j, j < 4 → k ≤ j → x.kid j = 0
 kid : ∀ j, j < k → kidB o ((m : Int) + 1 + 1) (x.kid j) = true ∧ kidT (dens o) ((m : Int) + 1 + 1) (x.kid j) = corT m j (kidT (dens l) ((m : Int) + 1) (t.kid j))
theorem kid0 (l : List Nd) {v : Int} (hv : 1 ≤ v) : kidB l v 0 = true := by
 by_cases h1 : v = 1
 ·
  rw [h1, kidB_one]; rfl
 ·
  exact kidB_zero _ _ h1
theorem wd_spec {l : List Nd} {t : Nd} {m : Nat} (hl : looseB l = true) (ht : fitB l t = true) (hlv : t.lv = (m : Int) + 1) (hm : m ≤ 1327) : ∀ k, k ≤ 4 → Wds l t m k (wdK l t k).1 (wdK l t k).2
 | 0, _ => ⟨hl, List.prefix_refl _, Nat.le_refl _, by show t.lv + 1 = _; rw [hlv], fun j hj _ => by
   match j, hj with
   | 0, _ => rfl
   | 1, _ => rfl
   | 2, _ => rfl
   | 3, _ => rfl, fun j hj => by omega⟩
 | k + 1, hk => by
  have ih := wd_spec hl ht hlv hm k (by omega)
  have hne : (m : Int) + 1 + 1 ≠ 1 := by omega
  have hkt : kidB l ((m : Int) + 1) (t.kid k) = true := by have := fit_kid ht (i := k) (by omega); rwa [hlv] at this
  unfold wdK
  obtain ⟨o, ho⟩ : ∃ o, o = (wdK l t k).1 := ⟨_, rfl⟩
  obtain ⟨x, hx⟩ : ∃ x, x = (wdK l t k).2 := ⟨_, rfl⟩
  rw [← ho, ← hx] at ih
  by_cases h0 : t.kid k = 0
  ·
   rw [if_pos h0, ← ho, ← hx]
   refine ⟨ih.loose, ih.pre, Nat.le_succ_of_le ih.len, ih.lv, fun j hj hkj => ih.zero j hj (by omega), fun j hj => ?_⟩
   rcases Nat.lt_or_ge j k with h1 | h1
   ·
    exact ih.kid j h1
   ·
    obtain rfl : j = k := by omega
    rw [ih.zero j (by omega) (Nat.le_refl _), h0, kidT_zero, kidT_zero, cor_e]
    exact ⟨kidB_zero _ _ hne, rfl⟩
  ·
   rw [if_neg h0, ← ho, ← hx]
   obtain ⟨c, hc⟩ : ∃ c, c = chK ⟨t.lv, 0, 0, 0, 0⟩ (3 - k) (t.kid k) := ⟨_, rfl⟩
   rw [← hc]
   have hclv : c.lv = (m : Int) + 1 := by rw [hc, chK_lv]; exact hlv
   have hck : ∀ j, j < 4 → c.kid j = if j = 3 - k then t.kid k else 0 := fun j hj => by
    rw [hc, chK_kid _ (by omega) _ hj]
    split
    ·
     rfl
    ·
     match j, hj with
     | 0, _ => rfl
     | 1, _ => rfl
     | 2, _ => rfl
     | 3, _ => rfl
   have hcf : fitB o c = true := by
    have h1 : ∀ j, j < 4 → kidB o ((m : Int) + 1) (c.kid j) = true := fun j hj => by
     rw [hck j hj]
     split
     ·
      exact kidB_pre ih.pre hkt
     ·
      exact kid0 _ (by omega)
    unfold fitB Nd.each
    rw [hclv, decide_eq_true (show 1 ≤ (m : Int) + 1 ∧ (m : Int) + 1 ≤ 1329 by omega)]
    show (true && (kidB o ((m : Int) + 1) (c.kid 0) && kidB o ((m : Int) + 1) (c.kid 1) && kidB o ((m : Int) + 1) (c.kid 2) && kidB o ((m : Int) + 1) (c.kid 3))) = true
    rw [h1 0 (by omega), h1 1 (by omega), h1 2 (by omega), h1 3 (by omega)]
    rfl
   have hcn : norm (dens o) c = corT m k (kidT (dens l) ((m : Int) + 1) (t.kid k)) := by
    have h1 : ∀ j, j < 4 → kidT (dens o) ((m : Int) + 1) (c.kid j) = if j = 3 - k then kidT (dens l) ((m : Int) + 1) (t.kid k) else .e := fun j hj => by
     rw [hck j hj]
     split
     ·
      exact kidT_pre ih.pre hkt
     ·
      exact kidT_zero _ _
    rw [norm_lv' hclv, h1 0 (by omega), h1 1 (by omega), h1 2 (by omega), h1 3 (by omega)]
    unfold corT
    have hk4 : k = 0 ∨ k = 1 ∨ k = 2 ∨ k = 3 := by omega
    rcases hk4 with rfl | rfl | rfl | rfl <;> rfl
   refine ⟨loose_snoc ih.loose hcf, ih.pre.trans (List.prefix_append _ _), ?_, by rw [chK_lv, ih.lv], fun j hj hkj => ?_, fun j hj => ?_⟩
   ·
    rw [List.length_append, List.length_singleton]
    have := ih.len
    omega
   ·
    rw [chK_kid _ (by omega) _ hj, if_neg (by omega)]
    exact ih.zero j hj (by omega)
   ·
    rw [chK_kid _ (by omega) _ (by omega)]
    by_cases hjk : j = k
    ·
     subst hjk
     rw [if_pos rfl, show (((o.length + 1 : Nat)) : Int) = (o.length : Int) + 1 by omega]
     refine ⟨?_, ?_⟩
     ·
      rw [kidB_in _ _ _ hne (by simp), at_last]
      exact decide_eq_true (by rw [hclv]; omega)
     ·
      rw [kidT_den hne, show ((o.length : Int) + 1).toNat = o.length + 1 by omega, den_last, hcn]
    ·
     rw [if_neg hjk]
     obtain ⟨h1, h2⟩ := ih.kid j (by omega)
     exact ⟨kidB_pre (List.prefix_append _ _) h1, by rw [kidT_pre (List.prefix_append _ _) h1, h2]⟩
structure Wis (l : List Nd) (m : Nat) (g : List Nd) : Prop where
 loose : looseB g = true
 pre : l <+: g
 pos : 0 < g.length
 lv : (at_ g (g.length - 1)).lv = (m : Int) + 1
 cells : ∀ x y, cellM (den g g.length) x y = cellM (den l l.length) x y
theorem wide_spec {l : List Nd} {m : Nat} (hl : looseB l = true) (h0 : 0 < l.length) (hlv : (at_ l (l.length - 1)).lv = (m : Int) + 1) (hm : m ≤ 1327) : Wis l (m + 1) (wideF l) ∧ (wideF l).length ≤ l.length + 5 := by
 obtain ⟨p, hp⟩ : ∃ p, l.length = p + 1 := ⟨l.length - 1, by omega⟩
 have ht := loose_fit hl (i := l.length - 1) (by omega)
 have hw := wd_spec hl ht hlv hm 4 (Nat.le_refl _)
 unfold wideF
 obtain ⟨t, hte⟩ : ∃ t, t = at_ l (l.length - 1) := ⟨_, rfl⟩
 rw [← hte] at ht hlv hw ⊢
 obtain ⟨o, ho⟩ : ∃ o, o = (wdK l t 4).1 := ⟨_, rfl⟩
 obtain ⟨x, hx⟩ : ∃ x, x = (wdK l t 4).2 := ⟨_, rfl⟩
 rw [← ho, ← hx] at hw ⊢
 have hkt : ∀ j, j < 4 → wfT (m : Int) (kidT (dens l) ((m : Int) + 1) (t.kid j)) := fun j hj => kid_wf hl (by have := fit_kid ht hj; rwa [hlv] at this)
 have hxl : x.lv = ((m + 1 : Nat) : Int) + 1 := by rw [hw.lv]; omega
 have hxk : ∀ j, j < 4 → kidB o (((m + 1 : Nat) : Int) + 1) (x.kid j) = true ∧ kidT (dens o) (((m + 1 : Nat) : Int) + 1) (x.kid j) = corT m j (kidT (dens l) ((m : Int) + 1) (t.kid j)) := fun j hj => by
  have h := hw.kid j hj
  rwa [show (m : Int) + 1 + 1 = ((m + 1 : Nat) : Int) + 1 by omega] at h
 have hfit : fitB o x = true := by
  unfold fitB Nd.each
  rw [hxl, decide_eq_true (show 1 ≤ ((m + 1 : Nat) : Int) + 1 ∧ ((m + 1 : Nat) : Int) + 1 ≤ 1329 by omega)]
  show (true && (kidB o (((m + 1 : Nat) : Int) + 1) (x.kid 0) && kidB o (((m + 1 : Nat) : Int) + 1) (x.kid 1) && kidB o (((m + 1 : Nat) : Int) + 1) (x.kid 2) && kidB o (((m + 1 : Nat) : Int) + 1) (x.kid 3))) = true
  rw [(hxk 0 (by omega)).1, (hxk 1 (by omega)).1, (hxk 2 (by omega)).1, (hxk 3 (by omega)).1]
  rfl
 have hlo := loose_snoc hw.loose hfit
 have hlen : (o ++ [x]).length = o.length + 1 := by simp
 refine ⟨⟨hlo, hw.pre.trans (List.prefix_append _ _), by rw [hlen]; omega, by rw [hlen, Nat.add_sub_cancel, at_last, hxl], fun a b => ?_⟩, by have := hw.len; rw [hlen]; omega⟩
 have hwt := wf_den hlo o.length (by rw [hlen]; omega)
 rw [at_last, hxl, show ((m + 1 : Nat) : Int) + 1 = ((m + 1 + 1 : Nat) : Int) by omega] at hwt
 have hwl := wf_den hl p (by omega)
 have e1 : (at_ l p).lv = ((m + 1 : Nat) : Int) := by
  rw [show p = l.length - 1 by omega, ← hte, hlv]
  omega
 rw [e1] at hwl
 have ec : ∀ j, j < 4 → wfT ((m + 1 : Nat) : Int) (kidT (dens o) (((m + 1 : Nat) : Int) + 1) (x.kid j)) := fun j hj => kid_wf hw.loose (hxk j hj).1
 rw [hlen, cellM_wf hwt, hp, cellM_wf hwl, den_last, norm_lv' hxl, cell_mk (ec 0 (by omega)) (ec 1 (by omega)) (ec 2 (by omega)) (ec 3 (by omega)), (hxk 0 (by omega)).2, (hxk 1 (by omega)).2, (hxk 2 (by omega)).2, (hxk 3 (by omega)).2,
  cor_cells (hkt 0 (by omega)) (by omega), cor_cells (hkt 1 (by omega)) (by omega), cor_cells (hkt 2 (by omega)) (by omega), cor_cells (hkt 3 (by omega)) (by omega), den_loose hl (by omega), show at_ l p = t by rw [hte, hp]; rfl, norm_lv' hlv, cell_mk (hkt 0 (by omega)) (hkt 1 (by omega)) (hkt 2 (by omega)) (hkt 3 (by omega))]
 have ep := p2_succ m
 show cellC _ (_ - p2 m) (_ - p2 m) + cellC _ (_ - 0) (_ - p2 m) + cellC _ (_ - p2 m) (_ - 0) + cellC _ (_ - 0) (_ - 0) = _
 rw [show a + p2 (m + 1) - p2 m = a + p2 m by omega, show b + p2 (m + 1) - p2 m = b + p2 m by omega, show a + p2 (m + 1) - p2 (m + 1) - 0 = a + p2 m - p2 m by omega, show b + p2 (m + 1) - p2 (m + 1) - 0 = b + p2 m - p2 m by omega]
def growF : Nat → List Nd → List Nd
 | 0, l => l
 | d + 1, l => growF d (wideF l)
def QS (q : List Nd) : Prop := looseB q = true ∧ OfL q q.length = q
theorem QS.quad {q : List Nd} (h : QS q) : quadB q = true := by
 have h1 := ofL_quad h.1 (Nat.le_refl _)
 rwa [h.2] at h1
def SetOf (q : List Nd) (X Y s : Int) (q' : List Nd) : Prop := QS q' ∧ ∀ x y, cellM (den q' q'.length) x y = if x = X ∧ y = Y then s else cellM (den q q.length) x y
theorem qs_one {a b : List Nd} (ha : QS a) (hb : QS b) (h : ∀ x y, cellM (den a a.length) x y = cellM (den b b.length) x y) : a = b := by
 have h1 := ofL_cells ha.1 hb.1 (Nat.le_refl _) (Nat.le_refl _) h
 rwa [ha.2, hb.2] at h1
theorem SetOf.one {q a b : List Nd} {X Y s : Int} (h : SetOf q X Y s a) (k : SetOf q X Y s b) : a = b := qs_one h.1 k.1 fun x y => by rw [h.2, k.2]
end Go.Proofs.Ytlnmcilcifbcnaa

namespace Go.Proofs.Ytlnmcilcifbcnaa
open Go.RowKit Num Nds
theorem p2_cast (k : Nat) : p2 k = ((2 ^ k : Nat) : Int) := by
 unfold p2
 rw [Int.natCast_pow]
 rfl
end Go.Proofs.Ytlnmcilcifbcnaa

namespace Go.Proofs.Ytlnmcilcifbcnaa
open Go.RowKit Num Nds
def SpAt (w : World) (b o : Nat) (v : Cv) : Prop :=
 w.cell? ⟨b, o, none⟩ = some (.bool v.sx) ∧ w.cell? ⟨b, o + 1, none⟩ = some (.slice v.ax v.xs.length v.cx) ∧ w.cell? ⟨b, o + 2, none⟩ = some (.bool v.sy) ∧ w.cell? ⟨b, o + 3, none⟩ = some (.slice v.ay v.ys.length v.cy)
theorem SpAt.below {w w' : World} {b o : Nat} {v : Cv} (h : SpAt w b o v) (hb : w'.heap[b]? = w.heap[b]?) : SpAt w' b o v := by
 obtain ⟨h1, h2, h3, h4⟩ := h
 exact ⟨(World.cell?_of_block (w := w) hb).trans h1, (World.cell?_of_block (w := w) hb).trans h2, (World.cell?_of_block (w := w) hb).trans h3, (World.cell?_of_block (w := w) hb).trans h4⟩
theorem big_cells {V : World} {g : Nat} {s : Bool} {A : Option Addr} {n c : Nat} (h : V.heap[g]? = some (.cells #[.bool s, .slice A n c] 25)) : V.cell? ⟨g, 0, none⟩ = some (.bool s) ∧ V.cell? ⟨g, 1, none⟩ = some (.slice A n c) :=
 ⟨by rw [cell_of_row _ _ _ _ _ (0, 0) h]; rfl, by rw [cell_of_row _ _ _ _ _ (0, 0) h]; rfl⟩
end Go.Proofs.Ytlnmcilcifbcnaa

namespace Go.Proofs.Ytlnmcilcifbcnaa
open Go.RowKit Num Nds
theorem p2_nat (i : Nat) : p2 i = ((2 ^ i : Nat) : Int) := p2_cast i
theorem qt_bits (i X Y : Nat) : qtI (p2 i) ((X % 2 ^ (i + 1) : Nat) : Int) ((Y % 2 ^ (i + 1) : Nat) : Int) = X / 2 ^ i % 2 + 2 * (Y / 2 ^ i % 2) ∧ subI (p2 i) ((X % 2 ^ (i + 1) : Nat) : Int) = ((X % 2 ^ i : Nat) : Int) := by
 have key : ∀ X : Nat, X % 2 ^ (i + 1) = X % 2 ^ i + 2 ^ i * (X / 2 ^ i % 2) := fun X => Nat.mod_pow_succ
 have hp := Nat.two_pow_pos i
 have one : ∀ X : Nat, (((X % 2 ^ (i + 1) : Nat) : Int) < p2 i ↔ X / 2 ^ i % 2 = 0) := fun X => by
  have h1 := Nat.mod_lt X hp
  rw [key X, p2_nat]
  have h2 : X / 2 ^ i % 2 = 0 ∨ X / 2 ^ i % 2 = 1 := by omega
  rcases h2 with h | h
  ·
   rw [h, Nat.mul_zero, Nat.add_zero]
   exact ⟨fun _ => rfl, fun _ => by omega⟩
  ·
   rw [h, Nat.mul_one]
   constructor
   ·
    intro h3; omega
   ·
    intro h3; omega
 refine ⟨?_, ?_⟩
 ·
  unfold qtI
  have hx : X / 2 ^ i % 2 = 0 ∨ X / 2 ^ i % 2 = 1 := by omega
  have hy : Y / 2 ^ i % 2 = 0 ∨ Y / 2 ^ i % 2 = 1 := by omega
  rcases hx with h | h <;> rcases hy with k | k
  ·
   rw [if_pos ((one X).2 h), if_pos ((one Y).2 k), h, k]
  ·
   rw [if_pos ((one X).2 h), if_neg (fun e => by have := (one Y).1 e; omega), h, k]
  ·
   rw [if_neg (fun e => by have := (one X).1 e; omega), if_pos ((one Y).2 k), h, k]
  ·
   rw [if_neg (fun e => by have := (one X).1 e; omega), if_neg (fun e => by have := (one Y).1 e; omega), h, k]
 ·
  unfold subI
  have hx : X / 2 ^ i % 2 = 0 ∨ X / 2 ^ i % 2 = 1 := by omega
  rcases hx with h | h
  ·
   rw [if_pos ((one X).2 h), key X, h, Nat.mul_zero, Nat.add_zero]
  ·
   rw [if_neg (fun e => by have := (one X).1 e; omega), key X, h, Nat.mul_one, p2_nat]
   omega
def getQ (q : List Nd) (X Y : Int) : Int := cellM (den q q.length) X Y
theorem last_wf {q : List Nd} (hq : looseB q = true) {m : Nat} (hl : levelZ q = (m : Int) + 1) : ∃ p, q.length = p + 1 ∧ (at_ q p).lv = (m : Int) + 1 ∧ wfT ((m + 1 : Nat) : Int) (den q (p + 1)) := by
 unfold levelZ at hl
 by_cases h0 : q = []
 ·
  rw [if_pos h0] at hl
  omega
 ·
  rw [if_neg h0] at hl
  have h1 := List.length_pos_iff.2 h0
  refine ⟨q.length - 1, by omega, hl, ?_⟩
  have h2 := wf_den hq (q.length - 1) (by omega)
  rwa [hl, show (m : Int) + 1 = ((m + 1 : Nat) : Int) by omega] at h2
theorem getQ_in {q : List Nd} (hq : looseB q = true) {m : Nat} (hl : levelZ q = (m : Int) + 1) {X Y : Int} (hX : -p2 m ≤ X ∧ X < p2 m) (hY : -p2 m ≤ Y ∧ Y < p2 m) (hm : m ≤ 1328) : getQ q X Y = getF (m + 1) q (q.length : Int) (X + p2 m) (Y + p2 m) ∧ kidB q (((m + 1 : Nat) : Int) + 1) (q.length : Int) = true := by
 obtain ⟨p, hp, hlv, hw⟩ := last_wf hq hl
 have ep := p2_succ m
 have hne : (((m + 1 : Nat)) : Int) + 1 ≠ 1 := by omega
 have hk : kidB q (((m + 1 : Nat) : Int) + 1) (q.length : Int) = true := by
  rw [hp, show (((p + 1 : Nat)) : Int) = (p : Int) + 1 by omega, kidB_in _ _ _ hne (by omega)]
  exact decide_eq_true (by rw [hlv]; omega)
 refine ⟨?_, hk⟩
 rw [get_spec hq (m := m + 1) (by omega) hk (by omega) (by omega) (by omega) (by omega), kidT_den hne, Int.toNat_natCast]
 unfold getQ
 rw [hp, cellM_wf hw]
theorem getF_zero (m : Nat) (q : List Nd) (x y : Int) : getF m q 0 x y = 0 := by
 cases m with
 | zero => rfl
 | succ m => unfold getF; rw [if_pos rfl]
end Go.Proofs.Ytlnmcilcifbcnaa

namespace Go.Proofs.Ytlnmcilcifbcnaa
open Go.RowKit Num Nds
structure GetR (q : List Nd) (R : Int) (X Y : Nat) (j : Nat) (k : Int) : Prop where
 fits : kidB q ((j : Int) + 1) k = true
 got : getF j q k ((X % 2 ^ j : Nat) : Int) ((Y % 2 ^ j : Nat) : Int) = R
theorem GetR.last {q : List Nd} {R : Int} {X Y : Nat} {k : Int} (h : GetR q R X Y 0 k) : k = R := h.got
theorem GetR.none {q : List Nd} {R : Int} {X Y j : Nat} (h : GetR q R X Y j 0) : R = 0 := by
 rw [← h.got, getF_zero]
theorem GetR.some {q : List Nd} {R : Int} {X Y j : Nat} {k : Int} (h : GetR q R X Y (j + 1) k) : k = 0 ∨ ∃ p : Nat, k = (p : Int) + 1 ∧ p < q.length := by
 rcases kid_up (show (((j + 1 : Nat)) : Int) + 1 ≠ 1 by omega) h.fits with h | ⟨p, h, hp, -⟩
 ·
  exact .inl h
 ·
  exact .inr ⟨p, h, hp⟩
theorem GetR.step {q : List Nd} (hq : looseB q = true) {R : Int} {X Y j p : Nat} (hj : j ≤ 1328) (h : GetR q R X Y (j + 1) ((p : Int) + 1)) : GetR q R X Y j ((at_ q p).kid (qtr j X Y)) := by
 obtain ⟨h1, h2⟩ := h
 obtain ⟨f1, f2, -⟩ := node_fit hq hj h1
 have hne : ¬ (p : Int) + 1 = 0 := by omega
 have e : nodeF j q ((p : Int) + 1) = at_ q p := by
  unfold nodeF
  rw [if_neg hne, show ((p : Int) + 1 - 1).toNat = p by omega]
 rw [e] at f1 f2
 obtain ⟨b1, b2⟩ := qt_bits j X Y
 obtain ⟨-, b3⟩ := qt_bits j Y X
 have hqt : qtI (p2 j) ((X % 2 ^ (j + 1) : Nat) : Int) ((Y % 2 ^ (j + 1) : Nat) : Int) = qtr j X Y := b1
 have hlt : qtr j X Y < 4 := by rw [← hqt]; exact qtI_lt _ _ _
 refine ⟨?_, ?_⟩
 ·
  have := fit_kid f1 hlt
  rwa [f2] at this
 ·
  unfold getF at h2
  rw [if_neg hne, e, hqt, b2, b3] at h2
  exact h2
theorem GetR.start {q : List Nd} (hq : looseB q = true) {m : Nat} (hl : levelZ q = (m : Int) + 1) {X Y : Int} (hX : -p2 m ≤ X ∧ X < p2 m) (hY : -p2 m ≤ Y ∧ Y < p2 m) (hm : m ≤ 1328) {x y : Nat} (hx : (x : Int) = X + p2 m) (hy : (y : Int) = Y + p2 m) : GetR q (getQ q X Y) x y (m + 1) (q.length : Int) := by
 obtain ⟨h1, h2⟩ := getQ_in hq hl hX hY hm
 have ep := p2_succ m
 have ep1 := p2_nat (m + 1)
 refine ⟨h2, ?_⟩
 rw [Nat.mod_eq_of_lt (show x < 2 ^ (m + 1) by omega), Nat.mod_eq_of_lt (show y < 2 ^ (m + 1) by omega), hx, hy]
 exact h1.symm
end Go.Proofs.Ytlnmcilcifbcnaa
