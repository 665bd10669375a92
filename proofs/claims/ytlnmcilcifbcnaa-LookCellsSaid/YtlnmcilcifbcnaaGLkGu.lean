/-
  cells: the quad of place's list, plain.
  cells, the reference's Of.
  cells, the reference's Quad.
  look: a cell got, a cell set, in a list of nodes; plain.
  look: a quad's list grown; the quad of a cell set; plain.
  look: least, inside, quarter.
  look: bit, quarter, inside.
  look: Get.
  look: Get's walk down, step by step (plain).
-/
import Derived.Test.YtlnmcilcifbcnaaGClVp
import Derived.Test.YtlnmcilcifbcnaaGClPj
import Derived.Test.YtlnmcilcifbcnaaGNcRS
import Derived.Test.YtlnmcilcifbcnaaGClPl
import Derived.Test.YtlnmcilcifbcnaaGClWi
import Derived.Test.YtlnmcilcifbcnaaGClLs
import Derived.Test.YtlnmcilcifbcnaaGClK2
import Derived.Test.YtlnmcilcifbcnaaGClM
import Derived.Test.YtlnmcilcifbcnaaGNdsW
import Derived.Test.YtlnmcilcifbcnaaGLen32
import Derived.Test.YtlnmcilcifbcnaaGClLa
import Derived.Deep.RegionHeld3
import Derived.Test.YtlnmcilcifbcnaaGNdRLoose
import Derived.Test.YtlnmcilcifbcnaaGNcPB

set_option linter.unusedVariables false
set_option linter.unusedSimpArgs false
set_option maxRecDepth 100000
namespace Go.Proofs.Ytlnmcilcifbcnaa
open Nds
theorem place_quad {L : List Cl} {m : Nat} (hL : Fine L) (h9 : m ≤ 1328) (hin : ∀ c ∈ L, inL c (m + 1) = true) :
  okB (placeF (m + 1) [] (-p2 m) (-p2 m) L).1 (placeF (m + 1) [] (-p2 m) (-p2 m) L).2 = true ∧ QuadOf L (ofQ (placeF (m + 1) [] (-p2 m) (-p2 m) L).1 (placeF (m + 1) [] (-p2 m) (-p2 m) L).2) := by
 have hsq : ∀ c ∈ L, sqB (-p2 m) (-p2 m) (p2 (m + 1)) c = true := fun c hc => by
  have h1 := hin c hc
  unfold inL inH at h1
  simp only [Nat.add_sub_cancel, Bool.and_eq_true, decide_eq_true_iff] at h1
  have h2 := p2_succ m
  exact sq_iff.2 (by omega)
 have hp := place_spec (m + 1) [] (-p2 m) (-p2 m) L (by omega) rfl hL hsq
 obtain ⟨r, hr⟩ : ∃ r, r = placeF (m + 1) [] (-p2 m) (-p2 m) L := ⟨_, rfl⟩
 rw [← hr] at hp ⊢
 have hne : (((m + 1 : Nat)) : Int) + 1 ≠ 1 := by omega
 have hk : 0 ≤ r.2 ∧ r.2 ≤ (r.1.length : Int) := by
  rcases kid_up hne hp.kid with e | ⟨q, e, hq, _⟩
  ·
   rw [e]; omega
  ·
   rw [e]; omega
 have hok : okB r.1 r.2 = true := by
  unfold okB
  rw [hp.loose, decide_eq_true hk]
  rfl
 refine ⟨hok, ?_⟩
 unfold ofQ
 rw [if_pos hok]
 refine ofL_quadOf hp.loose (by omega) fun x y => ?_
 have hw := hp.wf
 have hc := hp.cells (x + p2 m) (y + p2 m)
 rw [kidT_den hne] at hw hc
 rw [show x + p2 m + -p2 m = x by omega, show y + p2 m + -p2 m = y by omega] at hc
 rw [← hc]
 generalize den r.1 r.2.toNat = t at hw
 cases t with
 | e => rfl
 | s k =>
  have := hw.1
  omega
 | n v a b c d =>
  have e : (((m + 1 : Nat)) : Int) = v := hw.1
  subst e
  show cellC _ _ _ = _
  rw [show (Tr.n ((m + 1 : Nat) : Int) a b c d).lv.toNat - 1 = m from by show (((m + 1 : Nat)) : Int).toNat - 1 = m; omega]
end Go.Proofs.Ytlnmcilcifbcnaa

namespace Go.Proofs.Ytlnmcilcifbcnaa
open Go.RowKit Nds Num
theorem Ns.boxed {w : World} {A A0 : Option Addr} {c n0 c0 g : Nat} {l : List Nd} {u : Value} {t : TypeId} (h : Ns w A c l) (hb : w.heap[g]? = some (.cells #[.slice A0 n0 c0] t)) : Ns (w.setCell ⟨g, 0, none⟩ u) A c l :=
 ⟨h.1, h.2.1, h.2.2.1, fun h0 => by
  obtain ⟨b, off, e, hlt, hc⟩ := h.2.2.2 h0
  have hne : b ≠ g := fun e2 => by
   subst e2
   have h1 := (hc 0 h0).1
   rw [cell_of_row w b _ _ _ (0, 0) hb] at h1
   rcases off with _ | off
   ·
    simp at h1
   ·
    simp at h1
  exact ⟨b, off, e, by simpa [World.setCell] using hlt, fun i hi => (hc i hi).below (Below.heap_setCell w ⟨g, 0, none⟩ u b hne)⟩⟩
def RetOr (l : List Cv) (w : World) (e : Ending) (w' : World) : Prop :=
 ∃ A' c' qn q er, e = .returned (.tuple #[.agg #[.slice A' qn c'], .int .i64 er]) ∧ q.length = qn ∧ Ns w' A' c' q ∧ (A' = none → c' = 0) ∧ Below w.heap.size w w' ∧
  (l.all okC = false → er = 1 ∧ q = []) ∧ (l.all okC = true → (1329 < leastF (lastF (l.map Cv.cl)) → er = 4 ∧ q = []) ∧ (leastF (lastF (l.map Cv.cl)) ≤ 1329 → er = 0 ∧ QuadOf (lastF (l.map Cv.cl)) q))
theorem ror_arg {l : List Cv} {w0 wr w5 : World} {x : Cv} (hbb : Below w0.heap.size w0 wr) (hb5 : Below wr.heap.size wr w5) (hx : x ∈ l) (hok : okC x = false) :
  RetOr l w0 (.returned (.tuple #[.agg #[.slice none 0 0], .int .i64 1])) (w5.setCell ⟨w0.heap.size, 0, none⟩ (.slice none 0 0)) := by
 refine ⟨none, 0, 0, [], 1, rfl, rfl, ns_nil _, fun _ => rfl, (hbb.trans (hb5.mono hbb.size)).setCell (Nat.le_refl _) _, fun _ => ⟨rfl, rfl⟩, fun h => ?_⟩
 have := List.all_eq_true.1 h x hx
 rw [hok] at this
 cases this
set_option maxHeartbeats 6400000 in
theorem ror_any (A : Option Addr) (c n : Nat) (l : List Cv) (w : World) (h : Cs w A c l) (hn : l.length = n) (hn9 : n ≤ 600) (hln : ∀ v ∈ l, v.xs.length ≤ 60000 ∧ v.ys.length ≤ 60000) :
  Calls Try.prog 37 #[.slice A n c] w (RetOr l w) := by
 have hcap := h.cap
 rw [hn] at hcap
 obtain ⟨W, hW⟩ : ∃ W : World, W = w.alloc (.cells #[.slice none 0 0] 31) := ⟨_, rfl⟩
 have hb : Below w.heap.size w W := by rw [hW]; exact (Below.refl _ w).alloc (Nat.le_refl _) _
 have hq : W.heap[w.heap.size]? = some (.cells #[.slice none 0 0] 31) := by rw [hW]; exact heap_alloc_new w _
 have HWL := Lib.hid (show w.heap.size < W.heap.size by rw [hW]; simp)
 have HC := Lib.hid h
 have HN := Lib.hid hn
 have HL := Lib.hid hln
 have HW := Lib.hid hW
 have HB := Lib.hid hb
 have HQ := Lib.hid hq
 clear h hn hln hW hb hq
 go_enter Try.func37, Try.ntmps37
 go_wp2_with fail
 go_loopw [4] (fun z wr => ∃ (k : Nat), k ≤ n ∧ z = .int .i64 k ∧ (∀ j, j < k → okC (cat l j) = true) ∧ Below w.heap.size w wr ∧ wr.heap[w.heap.size]? = some (.cells #[.slice none 0 0] 31)) (fun z _ => n - (intOf z).toNat)
 case atStart => exact ⟨0, by omega, rfl, fun j hj => by omega, by rw [← HW.out]; exact HB.out, by rw [← HW.out]; exact HQ.out⟩
 case round =>
  obtain ⟨k, hk, rfl, hall, hbb, hqq⟩ := hrel
  have HAL := Lib.hid hall
  have HBB := Lib.hid hbb
  have HQQ := Lib.hid hqq
  have g0 := one_cell hqq
  have g1 := one_free hqq
  by_cases hlt : k < n
  ·
   have i1 : (k : Int) < (n : Int) := by omega
   have i2 : (0 : Int) ≤ (k : Int) := by omega
   have t1 : decide ((k : Int) < (n : Int)) = true := decide_eq_true i1
   obtain ⟨b, off, rfl, hbl, hcl⟩ := (HC.out.below hbb).at_ (by rw [HN.out]; omega)
   have hcv := hcl k (by rw [HN.out]; exact hlt)
   have hxl := cat_mem (l := l) (i := k) (by rw [HN.out]; exact hlt)
   have hxu := (HC.out.below hbb).1 _ hxl
   have hln := HL.out _ hxl
   obtain ⟨x, hx⟩ : ∃ x, x = cat l k := ⟨_, rfl⟩
   rw [← hx] at hcv hxu hln hxl
   have HCV := Lib.hid hcv
   obtain ⟨c1_, c2_, c3_, c4_, c5_⟩ := hcv
   have hv1 := hxu.1.cap
   have hv2 := hxu.2.1.cap
   have HXX := Lib.hid hx
   have HXL := Lib.hid hxl
   have HLN := Lib.hid hln
   have HXU := Lib.hid hxu
   have hgl := lt_of_cell g0
   dsimp only at hgl
   obtain ⟨rX, hrX⟩ : ∃ r, r = rightI x.sx x.xs := ⟨_, rfl⟩
   obtain ⟨rY, hrY⟩ : ∃ r, r = rightI x.sy x.ys := ⟨_, rfl⟩
   have HRX := Lib.hid hrX
   have HRY := Lib.hid hrY
   have HOK := Lib.hid (show okC x = (rX && rY) by unfold okC; rw [← hrX, ← hrY])
   clear hx hxl hxu hcl hrX hrY hbb hqq hln
   cases rX with
   | false =>
    go_wp2_with (go_at_call 13; go_loud (refine (rbright_any x.sx x.ax x.cx x.xs _ HXU.out.1 HLN.out.1).mono ?_; rintro e w5 ⟨rfl, b5⟩; rw [← HRX.out]; have HB5 := Lib.hid b5; have q0 := one_cell ((b5.block w.heap.size hgl).trans HQQ.out); have q1 := one_free ((b5.block w.heap.size hgl).trans HQQ.out); clear b5))
    have e1 := World.cell?_setCell_same _ _ (.slice none 0 0) q0
    exact bodyPost_ret (v := .tuple #[.agg #[.slice none 0 0], .int .i64 1]) (by simp [results, Try.results37, go_sem, e1]) rfl (ror_arg HBB.out HB5.out HXL.out (HOK.out.trans rfl))
   | true =>
    have sX := Lib.hid True.intro
    cases rY with
    | false =>
     go_wp2_with (first
      | (have _t := sX; go_at_call 13; clear _t; go_loud (clear sX; have sY := Lib.hid True.intro; refine (rbright_any x.sx x.ax x.cx x.xs _ HXU.out.1 HLN.out.1).mono ?_; rintro e w5 ⟨rfl, b5⟩; rw [← HRX.out]; have HB5 := Lib.hid b5; have HXU5 := Lib.hid (HXU.out.below b5); obtain ⟨k0_, k1_, k2_, k3_, k4_⟩ := HCV.out.below (b5.block b (World.block_lt_of_cell? wr _ HCV.out.1)); clear b5))
      | (have _t := sY; go_at_call 13; clear _t; go_loud (clear sY; refine (rbright_any x.sy x.ay x.cy x.ys _ HXU5.out.2.1 HLN.out.2).mono ?_; rintro e w6 ⟨rfl, b6⟩; rw [← HRY.out]; have HB6 := Lib.hid (HB5.out.trans (b6.mono HB5.out.size)); have q0 := one_cell ((HB6.out.block w.heap.size hgl).trans HQQ.out); have q1 := one_free ((HB6.out.block w.heap.size hgl).trans HQQ.out); clear b6)))
     have e1 := World.cell?_setCell_same _ _ (.slice none 0 0) q0
     exact bodyPost_ret (v := .tuple #[.agg #[.slice none 0 0], .int .i64 1]) (by simp [results, Try.results37, go_sem, e1]) rfl (ror_arg HBB.out HB6.out HXL.out (HOK.out.trans rfl))
    | true =>
     go_wp2_with (first
      | (have _t := sX; go_at_call 13; clear _t; go_loud (clear sX; have sY := Lib.hid True.intro; refine (rbright_any x.sx x.ax x.cx x.xs _ HXU.out.1 HLN.out.1).mono ?_; rintro e w5 ⟨rfl, b5⟩; rw [← HRX.out]; have HB5 := Lib.hid b5; have HXU5 := Lib.hid (HXU.out.below b5); obtain ⟨k0_, k1_, k2_, k3_, k4_⟩ := HCV.out.below (b5.block b (World.block_lt_of_cell? wr _ HCV.out.1)); clear b5))
      | (have _t := sY; go_at_call 13; clear _t; go_loud (clear sY; refine (rbright_any x.sy x.ay x.cy x.ys _ HXU5.out.2.1 HLN.out.2).mono ?_; rintro e w6 ⟨rfl, b6⟩; rw [← HRY.out]; have HB6 := Lib.hid (HB5.out.trans (b6.mono HB5.out.size)); clear b6)))
     go_roundw
     case rel => exact ⟨k + 1, by omega, by go_num, fun j hj => by
      rcases Nat.lt_or_ge j k with h | h
      ·
       exact HAL.out j h
      ·
       have : j = k := by omega
       subst this
       rw [← HXX.out, HOK.out]; rfl, HBB.out.trans (HB6.out.mono HBB.out.size), (HB6.out.block w.heap.size hgl).trans HQQ.out⟩
     case measure => simp [intOf]; omega
  ·
   obtain rfl : k = n := by omega
   have t1 : decide ((k : Int) < (k : Int)) = false := decide_eq_false (by omega)
   have hok : l.all okC = true := List.all_eq_true.2 fun v hv => by
    obtain ⟨j, hj, rfl⟩ := List.getElem_of_mem hv
    have := hall j (by have := HN.out; omega)
    rwa [cat_get hj] at this
   have hR : ∀ v ∈ l, CvR v := fun v hv => by
    have h1 := List.all_eq_true.1 hok v hv
    unfold okC at h1
    obtain ⟨h2, h3⟩ := Bool.and_eq_true_iff.1 h1
    exact ⟨right_canonC h2, right_canonC h3, HL.out v hv⟩
   have HR := Lib.hid hR
   have HOKL := Lib.hid hok
   have HST := Lib.hid (show ∀ u ∈ l, u.st ≤ 255 from fun u hu => (HC.out.1 u hu).2.2)
   clear hR hok hall hbb hqq
   have hgl := lt_of_cell g0
   dsimp only at hgl
   clear g0 g1
   obtain ⟨wo, hwo⟩ : ∃ wo, wo = wr := ⟨_, rfl⟩
   subst hwo
   go_wp2_with (go_at_call 23; go_loud (refine (rclast_any A c k l _ (HC.out.below HBB.out) HN.out HR.out (by omega)).mono ?_; rintro e w5 ⟨v5, M, rfl, ml5, in5, o5, b5⟩; obtain ⟨A5, c5, hv5, cs5, -, -⟩ := o5.cs (fun u hu => ((HC.out.below HBB.out).below b5).1 u (in5 u hu)); obtain ⟨p, hp⟩ : ∃ p, M.length = p := ⟨_, rfl⟩; rw [hp] at hv5; subst hv5; have cp5 := cs5.cap; rw [hp] at cp5; have hp9 := (show p ≤ 600 by have h1 := congrArg List.length ml5; rw [List.length_map] at h1; have h2 := lastF_le (l.map Cv.cl); rw [List.length_map, HN.out] at h2; omega); have HPL := Lib.hid hp; have CS5 := Lib.hid cs5; have IN5 := Lib.hid in5; have ML5 := Lib.hid ml5; have B5 := Lib.hid b5; have Q5 := Lib.hid ((b5.block w.heap.size hgl).trans HQQ.out); clear ml5 in5 o5 b5 cs5 hp))
   go_loopw [7, 6] (fun z z6 wr => ∃ (i lv : Nat), i ≤ p ∧ z = .int .i64 i ∧ z6 = .int .i64 lv ∧ lv = leastF ((M.take i).map Cv.cl) ∧ 1 ≤ lv ∧ lv ≤ 1330 ∧ Below w5.heap.size w5 wr) (fun z _ _ => p - (intOf z).toNat)
   case atStart => exact ⟨0, 1, by omega, rfl, rfl, rfl, by omega, by omega, Below.refl _ _⟩
   case round =>
    obtain ⟨i, lv, hi, rfl, rfl, hlv, hl1, hl2, hbr⟩ := hrel
    have HLV := Lib.hid hlv
    have HBR := Lib.hid hbr
    clear hlv hbr
    by_cases hip : i < p
    ·
     have t2 : decide ((i : Int) < (p : Int)) = true := decide_eq_true (by omega)
     have j1 : (0 : Int) ≤ (i : Int) := by omega
     have j2 : (i : Int) < (p : Int) := by omega
     obtain ⟨wi, hwi⟩ : ∃ wi, wi = wr := ⟨_, rfl⟩
     subst hwi
     obtain ⟨x, hx⟩ : ∃ x, x = cat M i := ⟨_, rfl⟩
     have hxm : x ∈ M := by rw [hx]; exact cat_mem (by rw [HPL.out]; exact hip)
     have HXM := Lib.hid hxm
     have HX_ := Lib.hid hx
     have hxr := HR.out x (IN5.out x hxm)
     have HXR := Lib.hid hxr
     obtain ⟨b, off, rfl, hb5, hcl5⟩ := CS5.out.at_ (by rw [HPL.out]; omega)
     have hcv := hcl5 i (by rw [HPL.out]; exact hip)
     rw [← hx] at hcv
     have HCV := Lib.hid hcv
     clear hx hxm hxr hcl5 hcv
     go_wp2_with fail
     go_loopw [6] (fun z wq => ∃ (lw : Nat), z = .int .i64 lw ∧ lv ≤ lw ∧ lw ≤ 1330 ∧ upL x.cl lw = upL x.cl lv ∧ Below w5.heap.size w5 wq) (fun z _ => 1331 - (intOf z).toNat)
     case atStart => exact ⟨lv, rfl, Nat.le_refl _, hl2, rfl, HBR.out⟩
     case round =>
      obtain ⟨lw, rfl, hw1, hw2, hup, hbq⟩ := hrel
      have HUP := Lib.hid hup
      have HBQ := Lib.hid hbq
      obtain ⟨f1, f2, f3, f4, f5⟩ := HCV.out.below (hbq.block b (World.block_lt_of_cell? w5 _ HCV.out.1))
      have hxu := (CS5.out.below hbq).1 x HXM.out
      have HXU := Lib.hid hxu
      have hv1 := hxu.1.cap
      have hv2 := hxu.2.1.cap
      clear hup hbq hxu
      by_cases h9 : lw ≤ 1329
      ·
       have t3 : decide ((lw : Int) ≤ 1329) = true := decide_eq_true (by omega)
       have t33 : decide (lw ≤ 1329) = true := decide_eq_true h9
       obtain ⟨bw, hbw⟩ : ∃ bw, bw = inL x.cl lw := ⟨_, rfl⟩
       have HBW := Lib.hid hbw
       clear hbw
       cases bw with
       | true =>
        go_wp2_with (go_at_call 74; go_loud (refine (rwithin_any x lw _ HXU.out HXR.out.2.2.1 HXR.out.2.2.2 (by omega) (by omega)).mono ?_; rintro e w7 ⟨rfl, b7⟩; rw [← HBW.out]; have B7 := Lib.hid (HBQ.out.trans (b7.mono HBQ.out.size)); clear b7))
        go_roundw
        case rel =>
         refine ⟨i + 1, lw, by omega, by go_num, rfl, ?_, by omega, by omega, B7.out⟩
         rw [leastF_take (by rw [HPL.out]; exact hip), ← HX_.out, ← HLV.out, ← HUP.out, upL_stop HBW.out.symm]
        case measure => simp [intOf]; omega
       | false =>
        go_wp2_with (go_at_call 74; go_loud (refine (rwithin_any x lw _ HXU.out HXR.out.2.2.1 HXR.out.2.2.2 (by omega) (by omega)).mono ?_; rintro e w7 ⟨rfl, b7⟩; rw [← HBW.out]; have B7 := Lib.hid (HBQ.out.trans (b7.mono HBQ.out.size)); clear b7))
        go_roundw
        case rel =>
         refine ⟨lw + 1, by go_num, by omega, by omega, ?_, B7.out⟩
         rw [← HUP.out, upL_next h9 HBW.out.symm]
        case measure => simp [intOf]; omega
      ·
       have t3 : decide ((lw : Int) ≤ 1329) = false := decide_eq_false (by omega)
       have t33 : decide (lw ≤ 1329) = false := decide_eq_false h9
       clear f1 f2 f3 f4 f5
       go_wp2_with fail
       go_roundw
       case rel =>
        refine ⟨i + 1, lw, by omega, by go_num, rfl, ?_, by omega, by omega, HBQ.out⟩
        rw [leastF_take (by rw [HPL.out]; exact hip), ← HX_.out, ← HLV.out, ← HUP.out, upL_top h9]
       case measure => simp [intOf]; omega
    ·
     obtain rfl : i = p := by omega
     have t2 : decide ((i : Int) < (i : Int)) = false := decide_eq_false (by omega)
     have hlv := HLV.out
     rw [List.take_of_length_le (by rw [HPL.out]; exact Nat.le_refl _), ML5.out] at hlv
     have HLV := Lib.hid hlv
     have HQ6 := Lib.hid ((HBR.out.block w.heap.size (Nat.lt_of_lt_of_le hgl B5.out.size)).trans Q5.out)
     have q0 := one_cell HQ6.out
     have q1 := one_free HQ6.out
     have HBW := Lib.hid ((HBB.out.trans (B5.out.mono HBB.out.size)).trans (HBR.out.mono (Nat.le_trans HBB.out.size B5.out.size)))
     clear hlv
     by_cases hbig : 1329 < lv
     ·
      have t3 : decide ((lv : Int) > 1329) = true := decide_eq_true (by omega)
      have t4 : decide (1329 < (lv : Int)) = true := t3
      have t5 : decide (1329 < lv) = true := decide_eq_true hbig
      go_wp2_with fail
      have e1 := World.cell?_setCell_same _ _ (.slice none 0 0) q0
      refine bodyPost_ret (v := .tuple #[.agg #[.slice none 0 0], .int .i64 4]) (by simp [results, Try.results37, go_sem, e1]) rfl ?_
      refine ⟨none, 0, 0, [], 4, rfl, rfl, ns_nil _, fun _ => rfl, HBW.out.setCell (Nat.le_refl _) _, fun h => ?_, fun _ => ⟨fun _ => ⟨rfl, rfl⟩, fun h => ?_⟩⟩
      ·
       rw [HOKL.out] at h; cases h
      ·
       have := HLV.out; omega
     ·
      have t3 : decide ((lv : Int) > 1329) = false := decide_eq_false (by omega)
      have t4 : decide (1329 < (lv : Int)) = false := t3
      have t5 : decide (1329 < lv) = false := decide_eq_false hbig
      obtain ⟨m, hm⟩ : ∃ m, lv = m + 1 := ⟨lv - 1, by omega⟩
      subst hm
      have hm9 : m ≤ 1328 := by omega
      have em : (((m + 1 : Nat)) : Int) = (m : Int) + 1 := by omega
      rw [em] at t3 t4 ⊢
      have hq1 := p2_mono (show m + 1 ≤ 1329 by omega)
      have hq2 := p2_pos m
      have hq3 := p2_succ m
      have hq4 : p2 1330 = p2 1329 + p2 1329 := p2_succ 1329
      have HPM := Lib.hid (show -p2 1330 ≤ p2 m ∧ p2 m ≤ p2 1330 from ⟨by omega, by omega⟩)
      have HPC := Lib.hid (show -p2 1329 ≤ -p2 m ∧ -p2 m + p2 (m + 1) ≤ p2 1329 from ⟨by omega, by omega⟩)
      have CS6 := Lib.hid (CS5.out.below HBR.out)
      clear hq1 hq2 hq3 hq4 em hbig
      have hfine : Fine (M.map Cv.cl) := by
       rw [ML5.out]
       exact lastF_fine fun c hc => by
        obtain ⟨u, hu, rfl⟩ := List.mem_map.1 hc
        have h1 := HST.out u hu
        show 0 ≤ (u.st : Int) ∧ (u.st : Int) ≤ 255
        omega
      have hpq := place_quad hfine hm9 (fun c hc => by
       obtain ⟨u, hu, rfl⟩ := List.mem_map.1 hc
       exact of_in ML5.out HLV.out (by omega) hu)
      have hpl := place_len (m + 1) [] (-p2 m) (-p2 m) (M.map Cv.cl)
      rw [List.length_nil, Nat.zero_add, List.length_map, HPL.out] at hpl
      have hmul : (m + 1) * i ≤ 1329 * 600 := Nat.mul_le_mul (by omega) hp9
      obtain ⟨N, hN⟩ : ∃ N, N = (placeF (m + 1) [] (-p2 m) (-p2 m) (M.map Cv.cl)).1 := ⟨_, rfl⟩
      obtain ⟨r, hr⟩ : ∃ r, r = (placeF (m + 1) [] (-p2 m) (-p2 m) (M.map Cv.cl)).2 := ⟨_, rfl⟩
      rw [← hN, ← hr] at hpq
      rw [← hN] at hpl
      obtain ⟨nn, hnn⟩ : ∃ nn, N.length = nn := ⟨_, rfl⟩
      have hnn9 : nn ≤ 797400 := by omega
      obtain ⟨q, hq⟩ : ∃ q, q = ofQ N r := ⟨_, rfl⟩
      have HQL := Lib.hid (ofQ_len N r)
      have HOE := Lib.hid (show ofE N r = 0 by unfold ofE; rw [if_pos hpq.1])
      have HQO := Lib.hid (show QuadOf (lastF (l.map Cv.cl)) q by rw [hq, ← ML5.out]; exact hpq.2)
      have HRB := Lib.hid (show 0 ≤ r ∧ r ≤ (nn : Int) by
       have h1 := hpq.1
       unfold okB at h1
       rw [Bool.and_eq_true, decide_eq_true_iff, hnn] at h1
       exact h1.2)
      have HNN := Lib.hid hnn
      have HN_ := Lib.hid hN
      have HR_ := Lib.hid hr
      have HQ_ := Lib.hid hq
      clear hN hr hq hnn hpq hpl hmul hfine
      go_wp2_with (first
       | (go_at_call 36; go_loud (refine (rbpow_any _ _).mono ?_; rintro e w9 ⟨A9, c9, s9, r9, rfl, u9, k9, v9, b9⟩; rw [pow_p2 m (by omega)] at v9; have L9 := Lib.hid (len_near k9 v9 HPM.out.1 HPM.out.2); have hcap9 := u9.cap; have U9 := Lib.hid u9; have V9 := Lib.hid v9; have B9 := Lib.hid b9; clear u9 k9 v9 b9))
       | (go_at_call 66; go_loud (refine (rminus_any s9 A9 c9 r9 _ U9.out (by have := L9.out; omega)).mono ?_; rintro e w10 ⟨A0, c0, s0, r0, rfl, u0, k0, v0, b0⟩; rw [V9.out] at v0; have hcap0 := u0.cap; have U0 := Lib.hid u0; have K0 := Lib.hid k0; have V0 := Lib.hid v0; have B0 := Lib.hid (B9.out.trans (b0.mono B9.out.size)); have BL := Lib.hid ((Below.refl w10.heap.size w10).alloc (Nat.le_refl _) (.cells #[.bool s0, .slice A0 r0.length c0] 25)); have hx := (show HX (w10.alloc (.cells #[.bool s0, .slice A0 r0.length c0] 25)) w10.heap.size s0 A0 c0 r0 (-p2 m) from ⟨heap_alloc_new w10 _, U0.out.below BL.out, K0.out, V0.out, fun h0 a ea => by have := us_lt U0.out h0 a ea; omega⟩); have x0 := hx.c0; have x1 := hx.c1; have HXX := Lib.hid hx; clear hx u0 k0 v0 b0))
       | (go_at_call 75; go_loud (refine (rplace_rec w10.heap.size m [] (.slice none 0 0) s0 A0 c0 r0 s0 A0 c0 r0 (-p2 m) (-p2 m) _ _ i M _ hm9 (ownN_none _ _) (by simp) HXX.out.us HXX.out.us HXX.out.cn HXX.out.cn HXX.out.v HXX.out.v HPC.out.1 HPC.out.2 HPC.out.1 HPC.out.2 ((CS6.out.below B0.out).below BL.out) HPL.out (fun u hu => HR.out u (IN5.out u hu)) ⟨(fun q h => by simp [Value.ownBlock] at h), (fun h0 a ea => ⟨us_lt HXX.out.us h0 a ea, by simp [Value.ownBlock]⟩), (fun h0 a ea => ⟨us_lt HXX.out.us h0 a ea, by simp [Value.ownBlock]⟩), (fun u hu => ⟨fun h0 a ea => ⟨us_lt (((CS6.out.below B0.out).below BL.out).1 u hu).1 h0 a ea, by simp [Value.ownBlock]⟩, fun h0 a ea => ⟨us_lt (((CS6.out.below B0.out).below BL.out).1 u hu).2.1 h0 a ea, by simp [Value.ownBlock]⟩⟩), (fun h0 a ea => ⟨by obtain ⟨b8, o8, e8, h8, -⟩ := ((CS6.out.below B0.out).below BL.out).at_ h0; rw [ea] at e8; cases e8; exact h8, by simp [Value.ownBlock]⟩)⟩ (by have h1 : (m + 1) * i ≤ 1329 * 600 := Nat.mul_le_mul (by omega) hp9; simp; omega)).mono ?_; rintro e w11 ⟨v11, rfl, o11, -, ky11⟩; rw [← HN_.out] at o11; rw [← HR_.out]; obtain ⟨A11, c11, hv11, ns11, na11, -⟩ := o11.shape; rw [HNN.out] at hv11; subst hv11; have cp11 := ns11.cap; rw [HNN.out] at cp11; have NS11 := Lib.hid ns11; have NA11 := Lib.hid na11; have B11 := Lib.hid ((B0.out.trans (BL.out.mono B0.out.size)).trans ((ky11.to (Nat.le_refl _) (fun q h => by simp [Value.ownBlock] at h)).mono (Nat.le_trans B0.out.size BL.out.size))); clear o11 ns11 na11 ky11))
       | (go_at_call 21; go_loud (refine (rof_at A11 c11 nn N r q q.length 0 _ NS11.out HNN.out (by omega) NA11.out HQ_.out.symm rfl HOE.out).mono ?_; rintro e w12 ⟨A12, c12, rfl, n12, a12, b12⟩; have hc12 := n12.cap; have N12 := Lib.hid n12; have A12' := Lib.hid a12; have B12 := Lib.hid (B11.out.trans (b12.mono B11.out.size)); have Q12 := Lib.hid ((B12.out.block w.heap.size (Array.getElem?_eq_some_iff.1 HQ6.out).1).trans HQ6.out); have q2 := one_cell Q12.out; have q3 := one_free Q12.out; clear n12 a12 b12 q0 q1)))
      have e1 := World.cell?_setCell_same _ _ (.slice A12 q.length c12) q2
      refine bodyPost_ret (v := .tuple #[.agg #[.slice A12 q.length c12], .int .i64 0]) (by simp [results, Try.results37, go_sem, e1]) rfl ?_
      refine ⟨A12, c12, _, q, 0, rfl, rfl, N12.out.boxed Q12.out, A12'.out, (HBW.out.trans (B12.out.mono HBW.out.size)).setCell (Nat.le_refl _) _, fun h => ?_, fun _ => ⟨fun h => ?_, fun _ => ⟨rfl, HQO.out⟩⟩⟩
      ·
       rw [HOKL.out] at h; cases h
      ·
       have := HLV.out; omega
end Go.Proofs.Ytlnmcilcifbcnaa

namespace Go.Proofs.Ytlnmcilcifbcnaa
open Go.RowKit Nds Num
theorem great_lens {l : List Cv} {most : Int} (h : greatB l most = false) : (l.length : Int) ≤ most ∧ ∀ v ∈ l, v.xs.length ≤ 50 ∧ v.ys.length ≤ 50 := by
 unfold greatB at h
 rw [Bool.or_eq_false_iff, decide_eq_false_iff_not] at h
 refine ⟨by omega, fun v hv => ?_⟩
 have h2 := List.any_eq_false.1 h.2 v hv
 unfold vast at h2
 rw [Bool.or_eq_true, decide_eq_true_iff, decide_eq_true_iff] at h2
 omega
def mayB (l : List Cv) (most : Int) : Bool := !greatB l most && l.all okC && decide (leastF (lastF (l.map Cv.cl)) ≤ 1329)
theorem may_great {l : List Cv} {most : Int} (h : greatB l most = true) : mayB l most = false := by unfold mayB; rw [h]; rfl
theorem may_iff {l : List Cv} {most : Int} : mayB l most = true ↔ greatB l most = false ∧ l.all okC = true ∧ leastF (lastF (l.map Cv.cl)) ≤ 1329 := by
 unfold mayB
 rw [Bool.and_eq_true, Bool.and_eq_true, decide_eq_true_iff, and_assoc]
 simp
theorem may_R {l : List Cv} {most : Int} (h : mayB l most = true) : (l.length : Int) ≤ most ∧ ∀ v ∈ l, CvR v := by
 obtain ⟨h1, h2, -⟩ := may_iff.1 h
 obtain ⟨h3, h4⟩ := great_lens h1
 refine ⟨h3, fun v hv => ?_⟩
 have h5 := List.all_eq_true.1 h2 v hv
 unfold okC at h5
 rw [Bool.and_eq_true] at h5
 have h6 := h4 v hv
 exact ⟨right_canonC h5.1, right_canonC h5.2, by omega, by omega⟩
def RetQr (l : List Cv) (most : Int) (w : World) (e : Ending) (w' : World) : Prop :=
 ∃ A' c' qn q ok, e = .returned (.tuple #[.agg #[.slice A' qn c'], .bool ok]) ∧ q.length = qn ∧ Ns w' A' c' q ∧ (A' = none → c' = 0) ∧ Below w.heap.size w w' ∧ ok = mayB l most ∧ (ok = false → q = []) ∧ (ok = true → QuadOf (lastF (l.map Cv.cl)) q)
set_option maxHeartbeats 3200000 in
theorem rquad_any (A : Option Addr) (c n : Nat) (most : Int) (l : List Cv) (w : World) (h : Cs w A c l) (hn : l.length = n) (hm : most ≤ 600) :
  Calls Try.prog 11 #[.slice A n c, .int .i64 most] w (RetQr l most w) := by
 have hcap := h.cap
 rw [hn] at hcap
 obtain ⟨W, hW⟩ : ∃ W : World, W = w.alloc (.cells #[.slice none 0 0] 31) := ⟨_, rfl⟩
 have hb : Below w.heap.size w W := by rw [hW]; exact (Below.refl _ w).alloc (Nat.le_refl _) _
 have hq : W.heap[w.heap.size]? = some (.cells #[.slice none 0 0] 31) := by rw [hW]; exact heap_alloc_new w _
 have hWL : w.heap.size < W.heap.size := by rw [hW]; simp
 have HC := Lib.hid (h.below hb)
 have HN := Lib.hid hn
 have HW := Lib.hid hW
 have HB := Lib.hid hb
 have HQ := Lib.hid hq
 clear h hn hW hb hq
 cases hg : greatB l most with
 | true =>
  have HG := Lib.hid hg
  clear hg
  go_enter Try.func11, Try.ntmps11
  go_wp2_with (go_at_call 12; go_loud (rw [← HW.out]; refine (cgreat_any A c n most l _ HC.out HN.out).mono ?_; rintro e w2 ⟨rfl, m2, hw2⟩; rw [HG.out]; have B2 := Lib.hid (show Below W.heap.size W w2 by rw [hw2]; exact below_drewN (Below.refl _ _) m2); have Q2 := Lib.hid ((B2.out.block w.heap.size hWL).trans HQ.out); have q0 := one_cell Q2.out; have q1 := one_free Q2.out; clear hw2))
  have e1 := World.cell?_setCell_same _ _ (.slice none 0 0) q0
  refine bodyPost_ret (v := .tuple #[.agg #[.slice none 0 0], .bool false]) (by simp [results, Try.results11, go_sem, e1]) rfl ?_
  exact ⟨none, 0, 0, [], false, rfl, rfl, ns_nil _, fun _ => rfl, (HB.out.trans (B2.out.mono HB.out.size)).setCell (Nat.le_refl _) _, (may_great HG.out).symm, fun _ => rfl, fun e => by cases e⟩
 | false =>
  obtain ⟨hn9, hlen⟩ := great_lens hg
  rw [HN.out] at hn9
  have HG := Lib.hid hg
  have HLN := Lib.hid hlen
  have hn6 : n ≤ 600 := by omega
  clear hg hlen
  go_enter Try.func11, Try.ntmps11
  go_wp2_with (first
   | (go_at_call 12; go_loud (rw [← HW.out]; refine (cgreat_any A c n most l _ HC.out HN.out).mono ?_; rintro e w2 ⟨rfl, m2, hw2⟩; rw [HG.out]; have B2 := Lib.hid (show Below W.heap.size W w2 by rw [hw2]; exact below_drewN (Below.refl _ _) m2); clear hw2))
   | (go_at_call 37; go_loud (refine (ror_any A c n l _ (HC.out.below B2.out) HN.out hn6 (fun v hv => ⟨Nat.le_trans (HLN.out v hv).1 (by omega), Nat.le_trans (HLN.out v hv).2 (by omega)⟩)).mono ?_; rintro e w3 ⟨A3, c3, qn, q, er, rfl, l3, n3, a3, b3, u3, u4⟩; have B3 := Lib.hid (B2.out.trans (b3.mono B2.out.size)); have BL := Lib.hid ((Below.refl w3.heap.size w3).alloc (Nat.le_refl _) (.cells #[.slice A3 qn c3] 31)); have Q3 := Lib.hid (((B3.out.trans (BL.out.mono B3.out.size)).block w.heap.size hWL).trans HQ.out); have q0 := one_cell Q3.out; have q1 := one_free Q3.out; have y0 := one_cell (heap_alloc_new w3 (.cells #[.slice A3 qn c3] 31)); have L3 := Lib.hid l3; have N3 := Lib.hid (n3.below BL.out); have A3' := Lib.hid a3; have U3 := Lib.hid u3; have U4 := Lib.hid u4; clear l3 n3 a3 b3 u3 u4)))
  have e1 := World.cell?_setCell_same _ _ (.slice A3 qn c3) q0
  refine bodyPost_ret (v := .tuple #[.agg #[.slice A3 qn c3], .bool (er == 0)]) (by simp [results, Try.results11, go_sem, e1]) rfl ?_
  have hbb := HB.out.trans ((B3.out.trans (BL.out.mono B3.out.size)).mono HB.out.size)
  refine ⟨A3, c3, qn, q, _, rfl, L3.out, N3.out.boxed Q3.out, A3'.out, hbb.setCell (Nat.le_refl _) _, ?_, ?_, ?_⟩
  all_goals
   cases hok : l.all okC with
   | false =>
    obtain ⟨rfl, rfl⟩ := U3.out hok
    simp [mayB, hok]
   | true =>
    by_cases h9 : leastF (lastF (l.map Cv.cl)) ≤ 1329
    ·
     obtain ⟨rfl, h4⟩ := (U4.out hok).2 h9
     first
      | (simp [mayB, hok, h9, HG.out]; done)
      | exact fun _ => h4
    ·
     obtain ⟨rfl, rfl⟩ := (U4.out hok).1 (by omega)
     simp [mayB, hok, h9]
end Go.Proofs.Ytlnmcilcifbcnaa

namespace Go.Proofs.Ytlnmcilcifbcnaa
open Nds
theorem kid_wf {l : List Nd} (hl : looseB l = true) : ∀ {m : Nat} {k : Int}, kidB l ((m : Int) + 1) k = true → wfT (m : Int) (kidT (dens l) ((m : Int) + 1) k)
 | 0, k, hk => by
  have h : kidB l 1 k = true := hk
  rw [kidB_one, decide_eq_true_iff] at h
  exact wf_st h
 | m + 1, k, hk => by
  have hne : (((m + 1 : Nat)) : Int) + 1 ≠ 1 := by omega
  rcases kid_up hne hk with rfl | ⟨p, rfl, hp, hlv⟩
  ·
   rw [kidT_zero]
   trivial
  ·
   rw [kidT_den hne, show ((p : Int) + 1).toNat = p + 1 by omega]
   have h := wf_den hl p hp
   rwa [hlv, show (((m + 1 : Nat)) : Int) + 1 - 1 = ((m + 1 : Nat) : Int) by omega] at h
theorem cell_out {t : Tr} {n : Nat} {x y : Int} (hw : wfT (n : Int) t) (h : ¬ (0 ≤ x ∧ x < p2 n ∧ 0 ≤ y ∧ y < p2 n)) : cellC t x y = 0 :=
 Classical.byContradiction fun h2 => h (cell_in t n x y hw h2)
def qtI (h x y : Int) : Nat := (if x < h then 0 else 1) + (if y < h then 0 else 2)
def subI (h x : Int) : Int := if x < h then x else x - h
theorem qtI_lt (h x y : Int) : qtI h x y < 4 := by
 unfold qtI
 split <;> split <;> omega
def chK (x : Nd) (i : Nat) (u : Int) : Nd := match i with | 0 => { x with a := u } | 1 => { x with b := u } | 2 => { x with c := u } | _ => { x with d := u }
theorem chK_lv (x : Nd) (i : Nat) (u : Int) : (chK x i u).lv = x.lv := by
 unfold chK
 split <;> rfl
theorem chK_kid (x : Nd) {i : Nat} (hi : i < 4) (u : Int) {j : Nat} (hj : j < 4) : (chK x i u).kid j = if j = i then u else x.kid j := by
 match i, hi, j, hj with
 | 0, _, 0, _ => rfl
 | 0, _, 1, _ => rfl
 | 0, _, 2, _ => rfl
 | 0, _, 3, _ => rfl
 | 1, _, 0, _ => rfl
 | 1, _, 1, _ => rfl
 | 1, _, 2, _ => rfl
 | 1, _, 3, _ => rfl
 | 2, _, 0, _ => rfl
 | 2, _, 1, _ => rfl
 | 2, _, 2, _ => rfl
 | 2, _, 3, _ => rfl
 | 3, _, 0, _ => rfl
 | 3, _, 1, _ => rfl
 | 3, _, 2, _ => rfl
 | 3, _, 3, _ => rfl
def nodeF (m : Nat) (l : List Nd) (n : Int) : Nd := if n = 0 then ⟨(m : Int) + 1, 0, 0, 0, 0⟩ else at_ l (n - 1).toNat
theorem node_fit {l : List Nd} (hl : looseB l = true) {m : Nat} (hm : m ≤ 1328) {n : Int} (hn : kidB l (((m + 1 : Nat)) + 1 : Int) n = true) : fitB l (nodeF m l n) = true ∧ (nodeF m l n).lv = (m : Int) + 1 ∧ kidT (dens l) (((m + 1 : Nat)) + 1 : Int) n = norm (dens l) (nodeF m l n) := by
 have hne : (((m + 1 : Nat)) : Int) + 1 ≠ 1 := by omega
 unfold nodeF
 rcases kid_up hne hn with rfl | ⟨p, rfl, hp, hlv⟩
 ·
  rw [if_pos rfl, kidT_zero]
  have hk : ∀ v : Int, 1 ≤ v → kidB l v 0 = true := fun v hv => by
   by_cases h1 : v = 1
   ·
    rw [h1, kidB_one]; rfl
   ·
    exact kidB_zero _ _ h1
  refine ⟨?_, rfl, ?_⟩
  ·
   unfold fitB Nd.each
   rw [decide_eq_true (show 1 ≤ (m : Int) + 1 ∧ (m : Int) + 1 ≤ 1329 by omega)]
   show (true && (kidB l ((m : Int) + 1) 0 && kidB l ((m : Int) + 1) 0 && kidB l ((m : Int) + 1) 0 && kidB l ((m : Int) + 1) 0)) = true
   rw [hk _ (by omega)]
   rfl
  ·
   show _ = mk _ (kidT (dens l) ((m : Int) + 1) 0) (kidT (dens l) ((m : Int) + 1) 0) (kidT (dens l) ((m : Int) + 1) 0) (kidT (dens l) ((m : Int) + 1) 0)
   rw [kidT_zero]
   rfl
 ·
  rw [if_neg (by omega), show ((p : Int) + 1 - 1).toNat = p by omega]
  refine ⟨loose_fit hl hp, by omega, ?_⟩
  rw [kidT_den hne, show ((p : Int) + 1).toNat = p + 1 by omega, den_loose hl hp]
theorem norm_lv' {l : List Nd} {x : Nd} {m : Nat} (h : x.lv = (m : Int) + 1) : norm (dens l) x = mk ((m : Int) + 1) (kidT (dens l) ((m : Int) + 1) (x.kid 0)) (kidT (dens l) ((m : Int) + 1) (x.kid 1)) (kidT (dens l) ((m : Int) + 1) (x.kid 2)) (kidT (dens l) ((m : Int) + 1) (x.kid 3)) := by
 unfold norm
 rw [h]
 rfl
def getF : Nat → List Nd → Int → Int → Int → Int
 | 0, _, n, _, _ => n
 | m + 1, l, n, x, y => if n = 0 then 0 else getF m l ((nodeF m l n).kid (qtI (p2 m) x y)) (subI (p2 m) x) (subI (p2 m) y)
theorem get_spec {l : List Nd} (hl : looseB l = true) : ∀ {m : Nat} {n x y : Int}, m ≤ 1329 → kidB l ((m : Int) + 1) n = true → 0 ≤ x → x < p2 m → 0 ≤ y → y < p2 m → getF m l n x y = cellC (kidT (dens l) ((m : Int) + 1) n) x y
 | 0, n, x, y, _, hn, hx0, hx, hy0, hy => by
  rw [p2_zero] at hx hy
  obtain rfl : x = 0 := by omega
  obtain rfl : y = 0 := by omega
  show n = cellC (st n) 0 0
  unfold st
  split
  ·
   rename_i h; rw [h]; rfl
  ·
   rfl
 | m + 1, n, x, y, hm, hn, hx0, hx, hy0, hy => by
  obtain ⟨h1, h2, h3⟩ := node_fit hl (by omega) hn
  have hw : ∀ i, i < 4 → wfT (m : Int) (kidT (dens l) ((m : Int) + 1) ((nodeF m l n).kid i)) := fun i hi => kid_wf hl (by have := fit_kid h1 hi; rwa [h2] at this)
  have hk : ∀ i, i < 4 → kidB l ((m : Int) + 1) ((nodeF m l n).kid i) = true := fun i hi => by have := fit_kid h1 hi; rwa [h2] at this
  have hp := p2_succ m
  have hp1 := p2_pos m
  unfold getF
  rw [h3, norm_lv' h2, cell_mk (hw 0 (by omega)) (hw 1 (by omega)) (hw 2 (by omega)) (hw 3 (by omega))]
  by_cases hn0 : n = 0
  ·
   rw [if_pos hn0]
   have e : nodeF m l n = ⟨(m : Int) + 1, 0, 0, 0, 0⟩ := by unfold nodeF; rw [if_pos hn0]
   rw [e]
   show (0 : Int) = cellC (kidT (dens l) _ 0) _ _ + cellC (kidT (dens l) _ 0) _ _ + cellC (kidT (dens l) _ 0) _ _ + cellC (kidT (dens l) _ 0) _ _
   rw [kidT_zero]
   rfl
  ·
   rw [if_neg hn0]
   unfold qtI subI
   by_cases hx1 : x < p2 m
   ·
    by_cases hy1 : y < p2 m
    ·
     simp only [hx1, hy1, if_true]
     rw [get_spec hl (by omega) (hk _ (by omega)) hx0 hx1 hy0 hy1, cell_out (hw 1 (by omega)) (by omega), cell_out (hw 2 (by omega)) (by omega), cell_out (hw 3 (by omega)) (by omega)]
     simp
    ·
     simp only [hx1, hy1, if_true, if_false]
     rw [get_spec hl (by omega) (hk _ (by omega)) hx0 hx1 (by omega) (by omega), cell_out (hw 0 (by omega)) (by omega), cell_out (hw 1 (by omega)) (by omega), cell_out (hw 3 (by omega)) (by omega)]
     simp
   ·
    by_cases hy1 : y < p2 m
    ·
     simp only [hx1, hy1, if_true, if_false]
     rw [get_spec hl (by omega) (hk _ (by omega)) (by omega) (by omega) hy0 hy1, cell_out (hw 0 (by omega)) (by omega), cell_out (hw 2 (by omega)) (by omega), cell_out (hw 3 (by omega)) (by omega)]
     simp
    ·
     simp only [hx1, hy1, if_false]
     rw [get_spec hl (by omega) (hk _ (by omega)) (by omega) (by omega) (by omega) (by omega), cell_out (hw 0 (by omega)) (by omega), cell_out (hw 1 (by omega)) (by omega), cell_out (hw 2 (by omega)) (by omega)]
     simp
def putF : Nat → List Nd → Int → Int → Int → Int → List Nd × Int
 | 0, l, _, _, _, s => (l, s)
 | m + 1, l, n, x, y, s =>
  ((putF m l ((nodeF m l n).kid (qtI (p2 m) x y)) (subI (p2 m) x) (subI (p2 m) y) s).1 ++ [chK (nodeF m l n) (qtI (p2 m) x y) (putF m l ((nodeF m l n).kid (qtI (p2 m) x y)) (subI (p2 m) x) (subI (p2 m) y) s).2],
   (((putF m l ((nodeF m l n).kid (qtI (p2 m) x y)) (subI (p2 m) x) (subI (p2 m) y) s).1.length + 1 : Nat) : Int))
structure Pts (m : Nat) (l : List Nd) (n x y s : Int) (r : List Nd × Int) : Prop where
 loose : looseB r.1 = true
 pre : l <+: r.1
 len : r.1.length = l.length + m
 kid : kidB r.1 ((m : Int) + 1) r.2 = true
 cells : ∀ x' y', cellC (kidT (dens r.1) ((m : Int) + 1) r.2) x' y' = if x' = x ∧ y' = y then s else cellC (kidT (dens l) ((m : Int) + 1) n) x' y'
theorem put_spec {l : List Nd} (hl : looseB l = true) : ∀ {m : Nat} {n x y s : Int}, m ≤ 1329 → kidB l ((m : Int) + 1) n = true → 0 ≤ x → x < p2 m → 0 ≤ y → y < p2 m → 0 ≤ s ∧ s ≤ 255 → Pts m l n x y s (putF m l n x y s)
 | 0, n, x, y, s, _, hn, hx0, hx, hy0, hy, hs => by
  rw [p2_zero] at hx hy
  obtain rfl : x = 0 := by omega
  obtain rfl : y = 0 := by omega
  have one : ∀ (k x' y' : Int), cellC (st k) x' y' = if x' = 0 ∧ y' = 0 then k else 0 := fun k x' y' => by
   unfold st
   split
   ·
    rename_i h; rw [h, cellC_e]; split <;> rfl
   ·
    rfl
  refine ⟨hl, List.prefix_refl _, rfl, decide_eq_true hs, fun x' y' => ?_⟩
  show cellC (st s) x' y' = if x' = 0 ∧ y' = 0 then s else cellC (st n) x' y'
  rw [one, one]
  split <;> rfl
 | m + 1, n, x, y, s, hm, hn, hx0, hx, hy0, hy, hs => by
  obtain ⟨h1, h2, h3⟩ := node_fit hl (by omega) hn
  have hk : ∀ i, i < 4 → kidB l ((m : Int) + 1) ((nodeF m l n).kid i) = true := fun i hi => by have := fit_kid h1 hi; rwa [h2] at this
  have hw : ∀ i, i < 4 → wfT (m : Int) (kidT (dens l) ((m : Int) + 1) ((nodeF m l n).kid i)) := fun i hi => kid_wf hl (hk i hi)
  have hp := p2_succ m
  have hp1 := p2_pos m
  have hq := qtI_lt (p2 m) x y
  have hsx : 0 ≤ subI (p2 m) x ∧ subI (p2 m) x < p2 m := by unfold subI; split <;> omega
  have hsy : 0 ≤ subI (p2 m) y ∧ subI (p2 m) y < p2 m := by unfold subI; split <;> omega
  have ih := put_spec hl (m := m) (n := (nodeF m l n).kid (qtI (p2 m) x y)) (s := s) (by omega) (hk _ hq) hsx.1 hsx.2 hsy.1 hsy.2 hs
  have e : putF (m + 1) l n x y s = ((putF m l ((nodeF m l n).kid (qtI (p2 m) x y)) (subI (p2 m) x) (subI (p2 m) y) s).1 ++ [chK (nodeF m l n) (qtI (p2 m) x y) (putF m l ((nodeF m l n).kid (qtI (p2 m) x y)) (subI (p2 m) x) (subI (p2 m) y) s).2],
   (((putF m l ((nodeF m l n).kid (qtI (p2 m) x y)) (subI (p2 m) x) (subI (p2 m) y) s).1.length + 1 : Nat) : Int)) := rfl
  rw [e]
  obtain ⟨r, hr⟩ : ∃ r, r = putF m l ((nodeF m l n).kid (qtI (p2 m) x y)) (subI (p2 m) x) (subI (p2 m) y) s := ⟨_, rfl⟩
  rw [← hr] at ih ⊢
  obtain ⟨z, hz⟩ : ∃ z, z = nodeF m l n := ⟨_, rfl⟩
  obtain ⟨i, hi⟩ : ∃ i, i = qtI (p2 m) x y := ⟨_, rfl⟩
  rw [← hz] at h1 h2 h3 hk hw
  rw [← hi] at hq
  rw [← hz, ← hi] at ih ⊢
  have hkr : ∀ j, j < 4 → kidB r.1 ((m : Int) + 1) ((chK z i r.2).kid j) = true := fun j hj => by
   rw [chK_kid z hq r.2 hj]
   split
   ·
    exact ih.kid
   ·
    exact kidB_pre ih.pre (hk j hj)
  have hlv : (chK z i r.2).lv = (m : Int) + 1 := by rw [chK_lv, h2]
  have hfit : fitB r.1 (chK z i r.2) = true := by
   unfold fitB Nd.each
   rw [hlv, decide_eq_true (show 1 ≤ (m : Int) + 1 ∧ (m : Int) + 1 ≤ 1329 by omega)]
   show (true && (kidB r.1 ((m : Int) + 1) ((chK z i r.2).kid 0) && kidB r.1 ((m : Int) + 1) ((chK z i r.2).kid 1) && kidB r.1 ((m : Int) + 1) ((chK z i r.2).kid 2) && kidB r.1 ((m : Int) + 1) ((chK z i r.2).kid 3))) = true
   rw [hkr 0 (by omega), hkr 1 (by omega), hkr 2 (by omega), hkr 3 (by omega)]
   rfl
  have hne : (((m + 1 : Nat)) : Int) + 1 ≠ 1 := by omega
  refine ⟨loose_snoc ih.loose hfit, ih.pre.trans (List.prefix_append _ _), ?_, ?_, fun x' y' => ?_⟩
  ·
   rw [List.length_append, List.length_singleton, ih.len]; omega
  ·
   show kidB (r.1 ++ [chK z i r.2]) ((((m + 1 : Nat)) : Int) + 1) ((r.1.length + 1 : Nat) : Int) = true
   rw [show (((r.1.length + 1 : Nat)) : Int) = (r.1.length : Int) + 1 by omega, kidB_in _ _ _ hne (by simp), at_last]
   exact decide_eq_true (by rw [hlv]; omega)
  ·
   show cellC (kidT (dens (r.1 ++ [chK z i r.2])) ((((m + 1 : Nat)) : Int) + 1) ((r.1.length + 1 : Nat) : Int)) x' y' = _
   rw [kidT_den hne, Int.toNat_natCast, den_last, norm_lv' hlv, h3, norm_lv' h2]
   have hwr : ∀ j, j < 4 → wfT (m : Int) (kidT (dens r.1) ((m : Int) + 1) ((chK z i r.2).kid j)) := fun j hj => kid_wf ih.loose (hkr j hj)
   rw [cell_mk (hwr 0 (by omega)) (hwr 1 (by omega)) (hwr 2 (by omega)) (hwr 3 (by omega)), cell_mk (hw 0 (by omega)) (hw 1 (by omega)) (hw 2 (by omega)) (hw 3 (by omega))]
   have hc : ∀ j, j < 4 → ∀ u v, cellC (kidT (dens r.1) ((m : Int) + 1) ((chK z i r.2).kid j)) u v = if j = i ∧ u = subI (p2 m) x ∧ v = subI (p2 m) y then s else cellC (kidT (dens l) ((m : Int) + 1) (z.kid j)) u v := fun j hj u v => by
    rw [chK_kid z hq r.2 hj]
    by_cases hji : j = i
    ·
     subst hji
     rw [if_pos rfl, ih.cells]
     by_cases huv : u = subI (p2 m) x ∧ v = subI (p2 m) y
     ·
      rw [if_pos huv, if_pos ⟨rfl, huv⟩]
     ·
      rw [if_neg huv, if_neg (fun h => huv h.2)]
    ·
     rw [if_neg hji, if_neg (fun h => hji h.1), kidT_pre ih.pre (hk j hj)]
   rw [hc 0 (by omega), hc 1 (by omega), hc 2 (by omega), hc 3 (by omega)]
   by_cases hxy : x' = x ∧ y' = y
   ·
    obtain ⟨rfl, rfl⟩ := hxy
    rw [if_pos (show x' = x' ∧ y' = y' from ⟨rfl, rfl⟩), hi]
    unfold qtI subI
    by_cases hx1 : x' < p2 m
    ·
     by_cases hy1 : y' < p2 m
     ·
      simp only [hx1, hy1, if_true]
      rw [if_pos (by simp), if_neg (by simp), if_neg (by simp), if_neg (by simp), cell_out (hw 1 (by omega)) (by omega), cell_out (hw 2 (by omega)) (by omega), cell_out (hw 3 (by omega)) (by omega)]
      omega
     ·
      simp only [hx1, hy1, if_true, if_false]
      rw [if_neg (by simp), if_neg (by simp), if_pos (by simp), if_neg (by simp), cell_out (hw 0 (by omega)) (by omega), cell_out (hw 1 (by omega)) (by omega), cell_out (hw 3 (by omega)) (by omega)]
      omega
    ·
     by_cases hy1 : y' < p2 m
     ·
      simp only [hx1, hy1, if_true, if_false]
      rw [if_neg (by simp), if_pos (by simp), if_neg (by simp), if_neg (by simp), cell_out (hw 0 (by omega)) (by omega), cell_out (hw 2 (by omega)) (by omega), cell_out (hw 3 (by omega)) (by omega)]
      omega
     ·
      simp only [hx1, hy1, if_false]
      rw [if_neg (by simp), if_neg (by simp), if_neg (by simp), if_pos (by simp), cell_out (hw 0 (by omega)) (by omega), cell_out (hw 1 (by omega)) (by omega), cell_out (hw 2 (by omega)) (by omega)]
      omega
   ·
    rw [if_neg hxy]
    have key : ∀ j u v, (j = 0 → u = x' ∧ v = y') → (j = 1 → u = x' - p2 m ∧ v = y') → (j = 2 → u = x' ∧ v = y' - p2 m) → (j = 3 → u = x' - p2 m ∧ v = y' - p2 m) → j < 4 → ¬ (j = i ∧ u = subI (p2 m) x ∧ v = subI (p2 m) y) := by
     intro j u v g0 g1 g2 g3 hj h
     obtain ⟨ha, hb, hc⟩ := h
     rw [hi] at ha
     unfold qtI at ha
     unfold subI at hb hc
     have hj4 : j = 0 ∨ j = 1 ∨ j = 2 ∨ j = 3 := by omega
     split at ha <;> split at ha <;> rename_i hx1 hy1 <;> simp only [hx1, hy1, if_true, if_false] at hb hc <;> rcases hj4 with rfl | rfl | rfl | rfl <;> first | omega | (exact hxy ⟨by have := (g0 rfl).1; omega, by have := (g0 rfl).2; omega⟩) | (exact hxy ⟨by have := (g1 rfl).1; omega, by have := (g1 rfl).2; omega⟩) | (exact hxy ⟨by have := (g2 rfl).1; omega, by have := (g2 rfl).2; omega⟩) | (exact hxy ⟨by have := (g3 rfl).1; omega, by have := (g3 rfl).2; omega⟩)
    rw [if_neg (key 0 _ _ (fun _ => ⟨rfl, rfl⟩) (fun e => by cases e) (fun e => by cases e) (fun e => by cases e) (by omega)), if_neg (key 1 _ _ (fun e => by cases e) (fun _ => ⟨rfl, rfl⟩) (fun e => by cases e) (fun e => by cases e) (by omega)), if_neg (key 2 _ _ (fun e => by cases e) (fun e => by cases e) (fun _ => ⟨rfl, rfl⟩) (fun e => by cases e) (by omega)), if_neg (key 3 _ _ (fun e => by cases e) (fun e => by cases e) (fun e => by cases e) (fun _ => ⟨rfl, rfl⟩) (by omega))]
end Go.Proofs.Ytlnmcilcifbcnaa

namespace Go.Proofs.Ytlnmcilcifbcnaa
open Nds
theorem cellM_wf {m : Nat} {t : Tr} (h : wfT ((m + 1 : Nat) : Int) t) (x y : Int) : cellM t x y = cellC t (x + p2 m) (y + p2 m) := by
 cases t with
 | e => rfl
 | s k =>
  have := h.1
  omega
 | n v a b c d =>
  have e : (((m + 1 : Nat)) : Int) = v := h.1
  subst e
  show cellC _ _ _ = _
  rw [show (Tr.n ((m + 1 : Nat) : Int) a b c d).lv.toNat - 1 = m from by show (((m + 1 : Nat)) : Int).toNat - 1 = m; omega]
def wdK (l : List Nd) (t : Nd) : Nat → List Nd × Nd
 | 0 => (l, ⟨t.lv + 1, 0, 0, 0, 0⟩)
 | k + 1 => if t.kid k = 0 then wdK l t k else ((wdK l t k).1 ++ [chK ⟨t.lv, 0, 0, 0, 0⟩ (3 - k) (t.kid k)], chK (wdK l t k).2 k (((wdK l t k).1.length + 1 : Nat) : Int))
def wideF (l : List Nd) : List Nd := (wdK l (at_ l (l.length - 1)) 4).1 ++ [(wdK l (at_ l (l.length - 1)) 4).2]
def corT (m j : Nat) (K : Tr) : Tr := mk ((m : Int) + 1) (if j = 3 then K else .e) (if j = 2 then K else .e) (if j = 1 then K else .e) (if j = 0 then K else .e)
theorem cor_e (m j : Nat) : corT m j .e = .e := by
 unfold corT
 simp only [ite_self]
 rfl
theorem cor_cells {m j : Nat} {K : Tr} (hK : wfT (m : Int) K) (hj : j < 4) (u v : Int) : cellC (corT m j K) u v = cellC K (u - offX m (3 - j)) (v - offY m (3 - j)) := by
 have we : wfT (m : Int) .e := trivial
 unfold corT
 match j, hj with
 | 0, _ =>
  rw [cell_mk (by simpa using we) (by simpa using we) (by simpa using we) (by simpa using hK)]
  simp [cellC_e, offX, offY]
 | 1, _ =>
  rw [cell_mk (by simpa using we) (by simpa using we) (by simpa using hK) (by simpa using we)]
  simp [cellC_e, offX, offY]
 | 2, _ =>
  rw [cell_mk (by simpa using we) (by simpa using hK) (by simpa using we) (by simpa using we)]
  simp [cellC_e, offX, offY]
 | 3, _ =>
  rw [cell_mk (by simpa using hK) (by simpa using we) (by simpa using we) (by simpa using we)]
  simp [cellC_e, offX, offY]
structure Wds (l : List Nd) (t : Nd) (m k : Nat) (o : List Nd) (x : Nd) : Prop where
 loose : looseB o = true
 pre : l <+: o
 len : o.length ≤ l.length + k
 lv : x.lv = (m : Int) + 1 + 1
 zero : ∀ j, j < 4 → k ≤ j → x.kid j = 0
 kid : ∀ j, j < k → kidB o ((m : Int) + 1 + 1) (x.kid j) = true ∧ kidT (dens o) ((m : Int) + 1 + 1) (x.kid j) = corT m j (kidT (dens l) ((m : Int) + 1) (t.kid j))
theorem kid0 (l : List Nd) {v : Int} (hv : 1 ≤ v) : kidB l v 0 = true := by
 by_cases h1 : v = 1
 ·
  rw [h1, kidB_one]; rfl
 ·
  exact kidB_zero _ _ h1
theorem wd_spec {l : List Nd} {t : Nd} {m : Nat} (hl : looseB l = true) (ht : fitB l t = true) (hlv : t.lv = (m : Int) + 1) (hm : m ≤ 1327) : ∀ k, k ≤ 4 → Wds l t m k (wdK l t k).1 (wdK l t k).2
 | 0, _ => ⟨hl, List.prefix_refl _, Nat.le_refl _, by show t.lv + 1 = _; rw [hlv], fun j hj _ => by
   match j, hj with
   | 0, _ => rfl
   | 1, _ => rfl
   | 2, _ => rfl
   | 3, _ => rfl, fun j hj => by omega⟩
 | k + 1, hk => by
  have ih := wd_spec hl ht hlv hm k (by omega)
  have hne : (m : Int) + 1 + 1 ≠ 1 := by omega
  have hkt : kidB l ((m : Int) + 1) (t.kid k) = true := by have := fit_kid ht (i := k) (by omega); rwa [hlv] at this
  unfold wdK
  obtain ⟨o, ho⟩ : ∃ o, o = (wdK l t k).1 := ⟨_, rfl⟩
  obtain ⟨x, hx⟩ : ∃ x, x = (wdK l t k).2 := ⟨_, rfl⟩
  rw [← ho, ← hx] at ih
  by_cases h0 : t.kid k = 0
  ·
   rw [if_pos h0, ← ho, ← hx]
   refine ⟨ih.loose, ih.pre, Nat.le_succ_of_le ih.len, ih.lv, fun j hj hkj => ih.zero j hj (by omega), fun j hj => ?_⟩
   rcases Nat.lt_or_ge j k with h1 | h1
   ·
    exact ih.kid j h1
   ·
    obtain rfl : j = k := by omega
    rw [ih.zero j (by omega) (Nat.le_refl _), h0, kidT_zero, kidT_zero, cor_e]
    exact ⟨kidB_zero _ _ hne, rfl⟩
  ·
   rw [if_neg h0, ← ho, ← hx]
   obtain ⟨c, hc⟩ : ∃ c, c = chK ⟨t.lv, 0, 0, 0, 0⟩ (3 - k) (t.kid k) := ⟨_, rfl⟩
   rw [← hc]
   have hclv : c.lv = (m : Int) + 1 := by rw [hc, chK_lv]; exact hlv
   have hck : ∀ j, j < 4 → c.kid j = if j = 3 - k then t.kid k else 0 := fun j hj => by
    rw [hc, chK_kid _ (by omega) _ hj]
    split
    ·
     rfl
    ·
     match j, hj with
     | 0, _ => rfl
     | 1, _ => rfl
     | 2, _ => rfl
     | 3, _ => rfl
   have hcf : fitB o c = true := by
    have h1 : ∀ j, j < 4 → kidB o ((m : Int) + 1) (c.kid j) = true := fun j hj => by
     rw [hck j hj]
     split
     ·
      exact kidB_pre ih.pre hkt
     ·
      exact kid0 _ (by omega)
    unfold fitB Nd.each
    rw [hclv, decide_eq_true (show 1 ≤ (m : Int) + 1 ∧ (m : Int) + 1 ≤ 1329 by omega)]
    show (true && (kidB o ((m : Int) + 1) (c.kid 0) && kidB o ((m : Int) + 1) (c.kid 1) && kidB o ((m : Int) + 1) (c.kid 2) && kidB o ((m : Int) + 1) (c.kid 3))) = true
    rw [h1 0 (by omega), h1 1 (by omega), h1 2 (by omega), h1 3 (by omega)]
    rfl
   have hcn : norm (dens o) c = corT m k (kidT (dens l) ((m : Int) + 1) (t.kid k)) := by
    have h1 : ∀ j, j < 4 → kidT (dens o) ((m : Int) + 1) (c.kid j) = if j = 3 - k then kidT (dens l) ((m : Int) + 1) (t.kid k) else .e := fun j hj => by
     rw [hck j hj]
     split
     ·
      exact kidT_pre ih.pre hkt
     ·
      exact kidT_zero _ _
    rw [norm_lv' hclv, h1 0 (by omega), h1 1 (by omega), h1 2 (by omega), h1 3 (by omega)]
    unfold corT
    have hk4 : k = 0 ∨ k = 1 ∨ k = 2 ∨ k = 3 := by omega
    rcases hk4 with rfl | rfl | rfl | rfl <;> rfl
   refine ⟨loose_snoc ih.loose hcf, ih.pre.trans (List.prefix_append _ _), ?_, by rw [chK_lv, ih.lv], fun j hj hkj => ?_, fun j hj => ?_⟩
   ·
    rw [List.length_append, List.length_singleton]
    have := ih.len
    omega
   ·
    rw [chK_kid _ (by omega) _ hj, if_neg (by omega)]
    exact ih.zero j hj (by omega)
   ·
    rw [chK_kid _ (by omega) _ (by omega)]
    by_cases hjk : j = k
    ·
     subst hjk
     rw [if_pos rfl, show (((o.length + 1 : Nat)) : Int) = (o.length : Int) + 1 by omega]
     refine ⟨?_, ?_⟩
     ·
      rw [kidB_in _ _ _ hne (by simp), at_last]
      exact decide_eq_true (by rw [hclv]; omega)
     ·
      rw [kidT_den hne, show ((o.length : Int) + 1).toNat = o.length + 1 by omega, den_last, hcn]
    ·
     rw [if_neg hjk]
     obtain ⟨h1, h2⟩ := ih.kid j (by omega)
     exact ⟨kidB_pre (List.prefix_append _ _) h1, by rw [kidT_pre (List.prefix_append _ _) h1, h2]⟩
structure Wis (l : List Nd) (m : Nat) (g : List Nd) : Prop where
 loose : looseB g = true
 pre : l <+: g
 pos : 0 < g.length
 lv : (at_ g (g.length - 1)).lv = (m : Int) + 1
 cells : ∀ x y, cellM (den g g.length) x y = cellM (den l l.length) x y
theorem wide_spec {l : List Nd} {m : Nat} (hl : looseB l = true) (h0 : 0 < l.length) (hlv : (at_ l (l.length - 1)).lv = (m : Int) + 1) (hm : m ≤ 1327) : Wis l (m + 1) (wideF l) ∧ (wideF l).length ≤ l.length + 5 := by
 obtain ⟨p, hp⟩ : ∃ p, l.length = p + 1 := ⟨l.length - 1, by omega⟩
 have ht := loose_fit hl (i := l.length - 1) (by omega)
 have hw := wd_spec hl ht hlv hm 4 (Nat.le_refl _)
 unfold wideF
 obtain ⟨t, hte⟩ : ∃ t, t = at_ l (l.length - 1) := ⟨_, rfl⟩
 rw [← hte] at ht hlv hw ⊢
 obtain ⟨o, ho⟩ : ∃ o, o = (wdK l t 4).1 := ⟨_, rfl⟩
 obtain ⟨x, hx⟩ : ∃ x, x = (wdK l t 4).2 := ⟨_, rfl⟩
 rw [← ho, ← hx] at hw ⊢
 have hkt : ∀ j, j < 4 → wfT (m : Int) (kidT (dens l) ((m : Int) + 1) (t.kid j)) := fun j hj => kid_wf hl (by have := fit_kid ht hj; rwa [hlv] at this)
 have hxl : x.lv = ((m + 1 : Nat) : Int) + 1 := by rw [hw.lv]; omega
 have hxk : ∀ j, j < 4 → kidB o (((m + 1 : Nat) : Int) + 1) (x.kid j) = true ∧ kidT (dens o) (((m + 1 : Nat) : Int) + 1) (x.kid j) = corT m j (kidT (dens l) ((m : Int) + 1) (t.kid j)) := fun j hj => by
  have h := hw.kid j hj
  rwa [show (m : Int) + 1 + 1 = ((m + 1 : Nat) : Int) + 1 by omega] at h
 have hfit : fitB o x = true := by
  unfold fitB Nd.each
  rw [hxl, decide_eq_true (show 1 ≤ ((m + 1 : Nat) : Int) + 1 ∧ ((m + 1 : Nat) : Int) + 1 ≤ 1329 by omega)]
  show (true && (kidB o (((m + 1 : Nat) : Int) + 1) (x.kid 0) && kidB o (((m + 1 : Nat) : Int) + 1) (x.kid 1) && kidB o (((m + 1 : Nat) : Int) + 1) (x.kid 2) && kidB o (((m + 1 : Nat) : Int) + 1) (x.kid 3))) = true
  rw [(hxk 0 (by omega)).1, (hxk 1 (by omega)).1, (hxk 2 (by omega)).1, (hxk 3 (by omega)).1]
  rfl
 have hlo := loose_snoc hw.loose hfit
 have hlen : (o ++ [x]).length = o.length + 1 := by simp
 refine ⟨⟨hlo, hw.pre.trans (List.prefix_append _ _), by rw [hlen]; omega, by rw [hlen, Nat.add_sub_cancel, at_last, hxl], fun a b => ?_⟩, by have := hw.len; rw [hlen]; omega⟩
 have hwt := wf_den hlo o.length (by rw [hlen]; omega)
 rw [at_last, hxl, show ((m + 1 : Nat) : Int) + 1 = ((m + 1 + 1 : Nat) : Int) by omega] at hwt
 have hwl := wf_den hl p (by omega)
 have e1 : (at_ l p).lv = ((m + 1 : Nat) : Int) := by
  rw [show p = l.length - 1 by omega, ← hte, hlv]
  omega
 rw [e1] at hwl
 have ec : ∀ j, j < 4 → wfT ((m + 1 : Nat) : Int) (kidT (dens o) (((m + 1 : Nat) : Int) + 1) (x.kid j)) := fun j hj => kid_wf hw.loose (hxk j hj).1
 rw [hlen, cellM_wf hwt, hp, cellM_wf hwl, den_last, norm_lv' hxl, cell_mk (ec 0 (by omega)) (ec 1 (by omega)) (ec 2 (by omega)) (ec 3 (by omega)), (hxk 0 (by omega)).2, (hxk 1 (by omega)).2, (hxk 2 (by omega)).2, (hxk 3 (by omega)).2,
  cor_cells (hkt 0 (by omega)) (by omega), cor_cells (hkt 1 (by omega)) (by omega), cor_cells (hkt 2 (by omega)) (by omega), cor_cells (hkt 3 (by omega)) (by omega), den_loose hl (by omega), show at_ l p = t by rw [hte, hp]; rfl, norm_lv' hlv, cell_mk (hkt 0 (by omega)) (hkt 1 (by omega)) (hkt 2 (by omega)) (hkt 3 (by omega))]
 have ep := p2_succ m
 show cellC _ (_ - p2 m) (_ - p2 m) + cellC _ (_ - 0) (_ - p2 m) + cellC _ (_ - p2 m) (_ - 0) + cellC _ (_ - 0) (_ - 0) = _
 rw [show a + p2 (m + 1) - p2 m = a + p2 m by omega, show b + p2 (m + 1) - p2 m = b + p2 m by omega, show a + p2 (m + 1) - p2 (m + 1) - 0 = a + p2 m - p2 m by omega, show b + p2 (m + 1) - p2 (m + 1) - 0 = b + p2 m - p2 m by omega]
def growF : Nat → List Nd → List Nd
 | 0, l => l
 | d + 1, l => growF d (wideF l)
theorem grow_spec : ∀ (d : Nat) {l : List Nd} {m : Nat}, looseB l = true → 0 < l.length → (at_ l (l.length - 1)).lv = (m : Int) + 1 → m + d ≤ 1328 → Wis l (m + d) (growF d l) ∧ (growF d l).length ≤ l.length + 5 * d
 | 0, l, m, hl, h0, hlv, _ => ⟨⟨hl, List.prefix_refl _, h0, hlv, fun _ _ => rfl⟩, Nat.le_refl _⟩
 | d + 1, l, m, hl, h0, hlv, hm => by
  obtain ⟨w1, w2⟩ := wide_spec hl h0 hlv (by omega)
  obtain ⟨g1, g2⟩ := grow_spec d w1.loose w1.pos w1.lv (by omega)
  unfold growF
  rw [show m + (d + 1) = m + 1 + d by omega]
  exact ⟨⟨g1.loose, w1.pre.trans g1.pre, g1.pos, g1.lv, fun x y => by rw [g1.cells, w1.cells]⟩, by omega⟩
def QS (q : List Nd) : Prop := looseB q = true ∧ OfL q q.length = q
theorem QS.quad {q : List Nd} (h : QS q) : quadB q = true := by
 have h1 := ofL_quad h.1 (Nat.le_refl _)
 rwa [h.2] at h1
theorem qs_of {l : List Nd} (hl : looseB l = true) {n : Nat} (hn : n ≤ l.length) : QS (OfL l n) := ⟨quad_loose (ofL_quad hl hn), ofL_self hl hn⟩
theorem qs_nil : QS [] := qs_of (l := []) rfl (Nat.le_refl 0)
def SetOf (q : List Nd) (X Y s : Int) (q' : List Nd) : Prop := QS q' ∧ ∀ x y, cellM (den q' q'.length) x y = if x = X ∧ y = Y then s else cellM (den q q.length) x y
theorem qs_one {a b : List Nd} (ha : QS a) (hb : QS b) (h : ∀ x y, cellM (den a a.length) x y = cellM (den b b.length) x y) : a = b := by
 have h1 := ofL_cells ha.1 hb.1 (Nat.le_refl _) (Nat.le_refl _) h
 rwa [ha.2, hb.2] at h1
theorem SetOf.one {q a b : List Nd} {X Y s : Int} (h : SetOf q X Y s a) (k : SetOf q X Y s b) : a = b := qs_one h.1 k.1 fun x y => by rw [h.2, k.2]
def setF (lv : Nat) (q : List Nd) (X Y s : Int) : List Nd × Int :=
 if q.length = 0 then putF lv [] 0 (X + p2 (lv - 1)) (Y + p2 (lv - 1)) s
 else putF lv (growF (lv - (at_ q (q.length - 1)).lv.toNat) q) ((growF (lv - (at_ q (q.length - 1)).lv.toNat) q).length : Nat) (X + p2 (lv - 1)) (Y + p2 (lv - 1)) s
theorem set_spec {q : List Nd} (hq : QS q) {lv : Nat} (h1 : 1 ≤ lv) (h9 : lv ≤ 1329) (hlv : 0 < q.length → (at_ q (q.length - 1)).lv ≤ (lv : Int)) {X Y s : Int} (hX : -p2 (lv - 1) ≤ X ∧ X < p2 (lv - 1)) (hY : -p2 (lv - 1) ≤ Y ∧ Y < p2 (lv - 1)) (hs : 0 ≤ s ∧ s ≤ 255) :
  okB (setF lv q X Y s).1 (setF lv q X Y s).2 = true ∧ SetOf q X Y s (ofQ (setF lv q X Y s).1 (setF lv q X Y s).2) ∧ (setF lv q X Y s).1.length ≤ q.length + 6 * 1329 := by
 obtain ⟨m, rfl⟩ : ∃ m, lv = m + 1 := ⟨lv - 1, by omega⟩
 rw [Nat.add_sub_cancel] at hX hY
 have ep := p2_succ m
 have hl := hq.1
 have hne : (((m + 1 : Nat)) : Int) + 1 ≠ 1 := by omega
 have key : ∀ (g : List Nd) (n : Nat), looseB g = true → n ≤ g.length → kidB g (((m + 1 : Nat)) + 1 : Int) (n : Int) = true → g.length ≤ q.length + 5 * 1329 → (∀ x y, cellM (den g n) x y = cellM (den q q.length) x y) →
   okB (putF (m + 1) g n (X + p2 m) (Y + p2 m) s).1 (putF (m + 1) g n (X + p2 m) (Y + p2 m) s).2 = true ∧ SetOf q X Y s (ofQ (putF (m + 1) g n (X + p2 m) (Y + p2 m) s).1 (putF (m + 1) g n (X + p2 m) (Y + p2 m) s).2) ∧ (putF (m + 1) g n (X + p2 m) (Y + p2 m) s).1.length ≤ q.length + 6 * 1329 := by
  intro g n hg hn hk hlen hcell
  have hp := put_spec hg (m := m + 1) (n := (n : Int)) (x := X + p2 m) (y := Y + p2 m) (by omega) hk (by omega) (by omega) (by omega) (by omega) hs
  obtain ⟨r, hr⟩ : ∃ r, r = putF (m + 1) g n (X + p2 m) (Y + p2 m) s := ⟨_, rfl⟩
  rw [← hr] at hp ⊢
  have hb : 0 ≤ r.2 ∧ r.2 ≤ (r.1.length : Int) := by
   rcases kid_up hne hp.kid with e | ⟨p, e, hp2, _⟩ <;> omega
  have hok : okB r.1 r.2 = true := by
   unfold okB
   rw [hp.loose, decide_eq_true hb]
   rfl
  refine ⟨hok, ?_, by have := hp.len; omega⟩
  unfold ofQ
  rw [if_pos hok]
  refine ⟨qs_of hp.loose (by omega), fun x y => ?_⟩
  rw [ofL_cell hp.loose (by omega)]
  have hw := kid_wf hp.loose (m := m + 1) hp.kid
  have hwg := kid_wf hg (m := m + 1) hk
  have hc := hp.cells (x + p2 m) (y + p2 m)
  rw [kidT_den hne] at hw hc hwg
  rw [kidT_den hne, Int.toNat_natCast] at hc
  rw [Int.toNat_natCast] at hwg
  rw [cellM_wf hw, hc, ← cellM_wf hwg, hcell]
  by_cases hxy : x = X ∧ y = Y
  ·
   rw [if_pos hxy, if_pos (by omega)]
  ·
   rw [if_neg hxy, if_neg (by omega)]
 unfold setF
 rw [Nat.add_sub_cancel]
 by_cases h0 : q.length = 0
 ·
  rw [if_pos h0]
  refine key [] 0 rfl (Nat.le_refl _) (kidB_zero _ _ hne) (by simp) (fun x y => ?_)
  rw [h0, den_zero, den_zero]
 ·
  rw [if_neg h0]
  have hfx := fit_lv (loose_fit hl (i := q.length - 1) (by omega))
  obtain ⟨k, hk⟩ : ∃ k : Nat, (at_ q (q.length - 1)).lv = (k : Int) + 1 := ⟨((at_ q (q.length - 1)).lv - 1).toNat, by omega⟩
  have hle := hlv (by omega)
  rw [hk] at hle ⊢
  obtain ⟨d, hd⟩ : ∃ d, d = m + 1 - ((k : Int) + 1).toNat := ⟨_, rfl⟩
  rw [← hd]
  obtain ⟨g1, g2⟩ := grow_spec d hl (by omega) hk (by omega)
  have hkd : k + d = m := by omega
  rw [hkd] at g1
  refine key _ _ g1.loose (Nat.le_refl _) ?_ (by omega) g1.cells
  obtain ⟨p, hp⟩ : ∃ p, (growF d q).length = p + 1 := ⟨(growF d q).length - 1, by have := g1.pos; omega⟩
  have hlv2 := g1.lv
  rw [hp, Nat.add_sub_cancel] at hlv2
  rw [hp, show (((p + 1 : Nat)) : Int) = (p : Int) + 1 by omega, kidB_in _ _ _ hne (by omega)]
  exact decide_eq_true (by rw [hlv2]; omega)
end Go.Proofs.Ytlnmcilcifbcnaa

namespace Go.Proofs.Ytlnmcilcifbcnaa
open Go.RowKit Num Nds
theorem blen_lei (n k : Nat) : blen n ≤ k ↔ n < 2 ^ k := by
 constructor
 ·
  intro h
  exact Nat.lt_of_lt_of_le (lt_blen n) (Nat.pow_le_pow_right (by decide) h)
 ·
  intro h
  by_cases h0 : n = 0
  ·
   subst h0
   exact Nat.zero_le _
  ·
   have h1 := blen_ge h0
   rcases Nat.lt_or_ge k (blen n) with h2 | h2
   ·
    have h3 : 2 ^ k ≤ 2 ^ (blen n - 1) := Nat.pow_le_pow_right (by decide) (by omega)
    omega
   ·
    exact h2
theorem blen_top {xs : List Nat} {p : Nat} (hd : Dig xs) (hc : Canon xs) (hn : xs.length = p + 1) : blen (val xs) = 32 * p + blen (xs[p]?.getD 0) := by
 refine blen_val hd (by omega) (by rw [List.take_of_length_le (by omega)]) fun e => ?_
 unfold Canon at hc
 rw [List.getLast?_eq_getElem?, hn, Nat.add_sub_cancel] at hc
 rw [List.getElem?_eq_getElem (by omega)] at hc e
 exact hc (by rw [← e]; rfl)
def rcI (n : Int) : Nat := blen (if n < 0 then -1 - n else n).toNat
theorem p2_cast (k : Nat) : p2 k = ((2 ^ k : Nat) : Int) := by
 unfold p2
 rw [Int.natCast_pow]
 rfl
theorem rc_iff (n : Int) (k : Nat) : rcI n ≤ k ↔ -p2 k ≤ n ∧ n < p2 k := by
 unfold rcI
 rw [blen_lei, p2_cast]
 split <;> omega
set_option maxHeartbeats 3200000 in
theorem reach_any (s : Bool) (A : Option Addr) (c : Nat) (xs : List Nat) (w : World) (h : Us w A c xs) (hk : CanonI s xs) (hl : xs.length ≤ 50000) :
  Calls Try.prog 76 #[.agg #[.bool s, .slice A xs.length c]] w fun e w' => e = .returned (.int .i64 (rcI (ival s xs) : Nat)) ∧ Below w.heap.size w w' := by
 have hcap := h.cap
 obtain ⟨W, hW⟩ : ∃ W : World, W = w.alloc (.cells #[.bool s, .slice A xs.length c] 25) := ⟨_, rfl⟩
 have hb : Below w.heap.size w W := by rw [hW]; exact (Below.refl _ w).alloc (Nat.le_refl _) _
 have hx : HX W w.heap.size s A c xs (ival s xs) := ⟨by rw [hW]; exact heap_alloc_new w _, h.below hb, hk, rfl, fun h0 a ea => by have := us_lt h h0 a ea; omega⟩
 have HX_ := Lib.hid hx
 have HB := Lib.hid hb
 have HW := Lib.hid hW
 have c0 := hx.c0
 have c1 := hx.c1
 have U0 := Lib.hid hx.us
 have K0 := Lib.hid hk.1
 obtain ⟨r, hr⟩ : ∃ r : Nat, r = rcI (ival s xs) := ⟨_, rfl⟩
 rw [← hr]
 have HR := Lib.hid hr
 rw [hW] at c0 c1
 cases s with
 | false =>
  have HF := Lib.hid (show rcI (ival false xs) = blen (val xs) by unfold rcI ival; simp; rw [if_neg (by omega)]; simp)
  have hl_ := hl
  clear h hk hl hb hx hW hr hcap
  go_enter Try.func76, Try.ntmps76
  have cp_ := U0.out.cap
  obtain ⟨n, hn⟩ : ∃ n, xs.length = n := ⟨_, rfl⟩
  rw [hn] at cp_ hl_ c1 HW
  have HN := Lib.hid hn
  rcases Nat.eq_zero_or_pos n with h0 | h0
  ·
   subst h0
   have HZ := Lib.hid (show xs = [] from List.eq_nil_of_length_eq_zero hn)
   clear hn
   first | rw [HN.out] | skip
   go_wp2_with fail
   go_ret
   refine ⟨?_, (by rw [← HW.out]; exact HB.out)⟩
   rw [HR.out, HF.out, HZ.out]
   rfl
  ·
   obtain ⟨p, rfl⟩ : ∃ p, n = p + 1 := ⟨n - 1, by omega⟩
   obtain ⟨b, off, rfl, hbl, hcl⟩ := U0.out.at_ (by omega)
   have cl := hcl p (by omega)
   obtain ⟨x, hx⟩ : ∃ x, x = xs[p]?.getD 0 := ⟨_, rfl⟩
   rw [← hx] at cl
   rw [HW.out] at cl
   have hx9 : x < 4294967296 := by
    rw [hx, List.getElem?_eq_getElem (by omega)]
    exact U0.out.1 _ (List.getElem_mem _)
   have hb9 : blen x ≤ 32 := (blen_lei x 32).2 hx9
   have HT := Lib.hid (show blen (val xs) = 32 * p + blen x by rw [hx]; exact blen_top U0.out.1 K0.out hn)
   have e1 : IntKind.i64.wrap ((p : Int) * 32) = (p : Int) * 32 := IntWalk.i64_in _ (by omega)
   have E2 := Lib.hid (show IntKind.i64.wrap ((p : Int) * 32 + (blen x : Nat)) = (p : Int) * 32 + (blen x : Nat) from IntWalk.i64_in _ (by omega))
   have t1 : decide ((p : Int) < 0) = false := decide_eq_false (by omega)
   have j1 : (0 : Int) ≤ (p : Int) := by omega
   have j2 : (p : Int) < (p : Int) + 1 := by omega
   clear hn hcl hx
   first | rw [HN.out] | skip
   go_wp2_with (go_at_call 99; go_loud (refine (len32_any x _ hx9).mono ?_; rintro e w9 ⟨rfl, rfl⟩))
   go_ret
   refine ⟨?_, (by rw [← HW.out]; exact HB.out)⟩
   rw [HR.out, HF.out, HT.out]
   rw [show ((32 * p + blen x : Nat) : Int) = (p : Int) * 32 + (blen x : Nat) by omega]
   rfl
 | true =>
  have hne : xs ≠ [] := hk.2 rfl
  have hpos : 1 ≤ val xs := by
   rcases Nat.eq_zero_or_pos (val xs) with e | e
   ·
    exact absurd (canon_zero hk.1 e) hne
   ·
    exact e
  have HP := Lib.hid hpos
  have y2 := hx.free 0
  have y3 := hx.free 1
  rw [hW] at y2 y3
  clear h hk hb hx hW hr hne hpos
  go_enter Try.func76, Try.ntmps76
  go_wp2_with fail
  have st := Lib.hid (show Below W.heap.size W (w.alloc (.cells #[.bool true, .slice A xs.length c] 25)).drew by rw [← HW.out]; exact below_drewN (Below.refl _ W) 1)
  have HX0 := Lib.hid (HX_.out.next st.out)
  go_cut [] from 6 to 8 (fun wx => ∃ s2 A2 c2 r2, HX wx w.heap.size s2 A2 c2 r2 (-1 - ival true xs) ∧ Below w.heap.size w wx)
  case first =>
   go_region_with (first
    | (go_at_call 67; go_loud (refine (bof_any (-1) _ (by decide) (by decide)).mono ?_; rintro e w5 ⟨A5, c5, s5, r5, rfl, u5, k5, v5, b5⟩; have h5 := HX0.out.next b5; have c0 := h5.c0; have c1 := h5.c1; have H5 := Lib.hid h5; have U5 := Lib.hid u5; have V5 := Lib.hid v5; have L5 := Lib.hid (len_ival k5 v5 1 (by decide)); have B5 := Lib.hid b5; have hcap5 := u5.cap; clear h5 u5 v5 b5))
    | (go_at_call 88; go_loud (refine (bsub_any s5 true _ _ _ _ r5 xs _ U5.out H5.out.us (by have := L5.out; omega) (by omega)).mono ?_; rintro e w6 ⟨A6, c6, s6, r6, rfl, u6, k6, v6, b6⟩; rw [V5.out] at v6; have h6 := H5.out.next b6; have c0 := h6.c0; have c1 := h6.c1; have y2 := h6.free 0; have y3 := h6.free 1; have H6 := Lib.hid h6; have U6 := Lib.hid u6; have K6 := Lib.hid k6; have V6 := Lib.hid v6; have B6 := Lib.hid (B5.out.trans (b6.mono B5.out.size)); clear h6 u6 k6 v6 b6)))
   all_goals
    go_wp2_with fail
    go_meet
    exact ⟨s6, A6, c6, r6, H6.out.set U6.out K6.out V6.out, ((((HB.out.trans (st.out.mono HB.out.size)).trans (B6.out.mono (Nat.le_trans HB.out.size st.out.size))).setCell (p := ⟨w.heap.size, 0, none⟩) (Nat.le_refl _) _).setCell (p := ⟨w.heap.size, 1, none⟩) (Nat.le_refl _) _)⟩
  case rest =>
   obtain ⟨s2, A2, c2, r2, h2, hb2⟩ := hcut
   have HB2 := Lib.hid hb2
   have H2 := Lib.hid h2
   have U2 := Lib.hid h2.us
   have K2 := Lib.hid h2.cn.1
   have q1 := h2.c1
   have hv2 := h2.v
   have e3 : ival true xs = -(val xs : Int) := rfl
   rw [e3] at hv2
   have hpos := HP.out
   have hs2 : s2 = false := by
    cases s2 with
    | false => rfl
    | true =>
     have h4 : (-(val r2 : Int)) = -1 - -(val xs : Int) := hv2
     have h5 : val r2 = 0 := by omega
     exact absurd (canon_zero h2.cn.1 h5) (h2.cn.2 rfl)
   subst hs2
   have hv3 : val r2 = val xs - 1 := by
    have h4 : ((val r2 : Nat) : Int) = -1 - -(val xs : Int) := hv2
    omega
   have hl_ : r2.length ≤ 50001 := by
    rcases Nat.lt_or_ge r2.length 50002 with h | h
    ·
     omega
    ·
     have h5 := lt_of_len U0.out.1 h2.cn.1 (show xs.length < r2.length by omega)
     omega
   have HF := Lib.hid (show rcI (ival true xs) = blen (val r2) by
    unfold rcI
    rw [e3, if_pos (by omega), hv3]
    congr 1
    omega)
   clear h2 hb2 hv2 e3 hpos hv3
   have cp_ := U2.out.cap
   obtain ⟨n, hn⟩ : ∃ n, r2.length = n := ⟨_, rfl⟩
   rw [hn] at cp_ hl_ q1
   have HN := Lib.hid hn
   rcases Nat.eq_zero_or_pos n with h0 | h0
   ·
    subst h0
    have HZ := Lib.hid (show r2 = [] from List.eq_nil_of_length_eq_zero hn)
    clear hn
    first | rw [HN.out] | skip
    go_wp2_with fail
    go_ret
    refine ⟨?_, HB2.out⟩
    rw [HR.out, HF.out, HZ.out]
    rfl
   ·
    obtain ⟨p, rfl⟩ : ∃ p, n = p + 1 := ⟨n - 1, by omega⟩
    obtain ⟨b, off, rfl, hbl, hcl⟩ := U2.out.at_ (by omega)
    have cl := hcl p (by omega)
    obtain ⟨x, hx⟩ : ∃ x, x = r2[p]?.getD 0 := ⟨_, rfl⟩
    rw [← hx] at cl
    have hx9 : x < 4294967296 := by
     rw [hx, List.getElem?_eq_getElem (by omega)]
     exact U2.out.1 _ (List.getElem_mem _)
    have hb9 : blen x ≤ 32 := (blen_lei x 32).2 hx9
    have HT := Lib.hid (show blen (val r2) = 32 * p + blen x by rw [hx]; exact blen_top U2.out.1 K2.out hn)
    have e1 : IntKind.i64.wrap ((p : Int) * 32) = (p : Int) * 32 := IntWalk.i64_in _ (by omega)
    have E2 := Lib.hid (show IntKind.i64.wrap ((p : Int) * 32 + (blen x : Nat)) = (p : Int) * 32 + (blen x : Nat) from IntWalk.i64_in _ (by omega))
    have t1 : decide ((p : Int) < 0) = false := decide_eq_false (by omega)
    have j1 : (0 : Int) ≤ (p : Int) := by omega
    have j2 : (p : Int) < (p : Int) + 1 := by omega
    clear hn hcl hx
    first | rw [HN.out] | skip
    go_wp2_with (go_at_call 99; go_loud (refine (len32_any x _ hx9).mono ?_; rintro e w9 ⟨rfl, rfl⟩))
    go_ret
    refine ⟨?_, HB2.out⟩
    rw [HR.out, HF.out, HT.out]
    rw [show ((32 * p + blen x : Nat) : Int) = (p : Int) * 32 + (blen x : Nat) by omega]
    rfl
theorem rc_len {s : Bool} {xs : List Nat} (hd : Dig xs) (hl : xs.length ≤ 50000) : rcI (ival s xs) ≤ 1600000 := by
 obtain ⟨M, hM⟩ : ∃ M, M = 1600000 := ⟨_, rfl⟩
 rw [← hM, rc_iff]
 have h1 := val_lt hd
 have h2 : (4294967296 : Nat) ^ xs.length ≤ 2 ^ M := by
  rw [show (4294967296 : Nat) = 2 ^ 32 by decide, ← Nat.pow_mul]
  exact Nat.pow_le_pow_right (by decide) (by omega)
 rw [p2_cast]
 unfold ival
 split <;> omega
set_option maxHeartbeats 3200000 in
theorem least_lk (s t : Bool) (A B : Option Addr) (c d : Nat) (xs ys : List Nat) (w : World) (h : Us w A c xs) (k : Us w B d ys) (hk : CanonI s xs) (kk : CanonI t ys) (hl : xs.length ≤ 50000) (kl : ys.length ≤ 50000) :
  Calls Try.prog 39 #[.agg #[.bool s, .slice A xs.length c], .agg #[.bool t, .slice B ys.length d]] w fun e w' => e = .returned (.int .i64 ((max (rcI (ival s xs)) (rcI (ival t ys)) : Nat) + 1 : Int)) ∧ Below w.heap.size w w' := by
 have hcap := h.cap
 have kcap := k.cap
 obtain ⟨hX, hY, hB⟩ := box2 w (.bool s) (.slice A xs.length c) (.bool t) (.slice B ys.length d) 25
 have HX1 := Lib.hid hX.drew
 have HY1 := Lib.hid hY.drew
 have HB := Lib.hid (Below.drew' hB)
 have H1 := Lib.hid (h.below HB.out)
 have H2 := Lib.hid (k.below HB.out)
 have K1 := Lib.hid hk
 have K2 := Lib.hid kk
 obtain ⟨a, ha⟩ : ∃ a : Nat, a = rcI (ival s xs) := ⟨_, rfl⟩
 obtain ⟨b, hb⟩ : ∃ b : Nat, b = rcI (ival t ys) := ⟨_, rfl⟩
 rw [← ha, ← hb]
 have HA := Lib.hid ha
 have HBB := Lib.hid hb
 have ha9 : a ≤ 1600000 := by
  rw [ha]
  exact rc_len H1.out.1 hl
 have hb9 : b ≤ 1600000 := by
  rw [hb]
  exact rc_len H2.out.1 kl
 obtain ⟨m, hm⟩ : ∃ m : Nat, m = max a b := ⟨_, rfl⟩
 rw [← hm]
 have em : max (a : Int) (b : Int) = (m : Int) := by rw [hm]; omega
 have hm9 : m ≤ 1600000 := by omega
 have E1 := Lib.hid (show IntKind.i64.wrap ((m : Int) + 1) = (m : Int) + 1 from IntWalk.i64_in _ (by omega))
 have q0 : True := trivial
 clear h k hk kk hX hY hB ha hb hm
 go_enter Try.func39, Try.ntmps39
 go_wp2_with fail
 go_region_held3 (fun w' => w'.cell? ⟨w.heap.size, 0, none⟩ = some (.bool s) ∧ w'.cell? ⟨w.heap.size, 1, none⟩ = some (.slice A xs.length c) ∧ w'.cell? ⟨w.heap.size + 1, 0, none⟩ = some (.bool t) ∧ w'.cell? ⟨w.heap.size + 1, 1, none⟩ = some (.slice B ys.length d))
  (first | go_keep | fail)
  (first
   | (have _t := q0; go_at_call 76; clear _t; go_loud (refine (reach_any s A c xs _ H1.out K1.out hl).mono ?_; rintro e w1 ⟨rfl, b1⟩; rw [← HA.out]; have B1 := Lib.hid b1; obtain ⟨x1, x2, _, _, _⟩ := HX1.out.below b1; obtain ⟨z1, z2, _, _, _⟩ := HY1.out.below b1; clear b1; have q1 := q0; clear q0))
   | (have _t := q1; go_at_call 76; clear _t; go_loud (refine (reach_any t B d ys _ (H2.out.below B1.out) K2.out kl).mono ?_; rintro e w2 ⟨rfl, b2⟩; rw [← HBB.out]; have B2 := Lib.hid b2; obtain ⟨x1, x2, _, _, _⟩ := (HX1.out.below B1.out).below b2; obtain ⟨z1, z2, _, _, _⟩ := (HY1.out.below B1.out).below b2; clear b2; have q2 := q1; clear q1)))
 go_wp2_with fail
 go_ret
 exact ⟨by simp [E1.out], HB.out.trans ((B1.out.trans (B2.out.mono B1.out.size)).mono HB.out.size)⟩
end Go.Proofs.Ytlnmcilcifbcnaa

namespace Go.Proofs.Ytlnmcilcifbcnaa
open Go.RowKit Num Nds
theorem bit_int {x p : Nat} (hx : x < 4294967296) : wrap64 (bits .and .u32 ((x : Int) / 2 ^ p) 1) = ((x / 2 ^ p % 2 : Nat) : Int) := by
 have e1 : ((x : Int) / 2 ^ p) = ((x / 2 ^ p : Nat) : Int) := by simp
 have h1 : x / 2 ^ p < 4294967296 := Nat.lt_of_le_of_lt (Nat.div_le_self _ _) hx
 rw [e1, show (1 : Int) = ((1 : Nat) : Int) from rfl, u32_and_nat _ _ h1 (by decide), Nat.and_one_is_mod]
 exact IntWalk.wrap64_in _ ⟨by omega, by omega⟩
set_option maxHeartbeats 3200000 in
theorem bit_lk (s : Bool) (A : Option Addr) (c : Nat) (xs : List Nat) (m : Nat) (w : World) (h : Us w A c xs) (hl : xs.length ≤ 60000) (hm : m ≤ 100000) :
  Calls Try.prog 83 #[.agg #[.bool s, .slice A xs.length c], .int .i64 (m : Int)] w fun e w' => e = .returned (.int .i64 (val xs / 2 ^ m % 2 : Nat)) ∧ Below w.heap.size w w' := by
 have hcap := h.cap
 have hd := h.1
 have HB := Lib.hid ((Below.refl w.heap.size w).alloc (Nat.le_refl _) (.cells #[.bool s, .slice A xs.length c] 25))
 obtain ⟨q, hq⟩ : ∃ q, q = m / 32 := ⟨_, rfl⟩
 obtain ⟨p, hp⟩ : ∃ p, p = m % 32 := ⟨_, rfl⟩
 have hp9 : p < 32 := by omega
 have e1 : (m : Int) / 32 = (q : Int) := by omega
 have e2 : (m : Int) % 32 = (p : Int) := by omega
 obtain ⟨x, hx⟩ : ∃ x, x = xs[q]?.getD 0 := ⟨_, rfl⟩
 have hx9 : x < 4294967296 := by rw [hx]; exact hd.getD _
 obtain ⟨R, hR⟩ : ∃ R, R = val xs / 2 ^ m % 2 := ⟨_, rfl⟩
 rw [← hR]
 have HR := Lib.hid (show R = x / 2 ^ p % 2 by rw [hR, ← limb_bit hd, hx, hq, hp])
 obtain ⟨n, hn⟩ : ∃ n, xs.length = n := ⟨_, rfl⟩
 rw [hn] at hcap hl HB ⊢
 by_cases hqn : n ≤ q
 ·
  have t1 : decide ((q : Int) ≥ (n : Int)) = true := decide_eq_true (by omega)
  have t2 : decide ((n : Int) ≤ (q : Int)) = true := t1
  have t3 : decide (n ≤ q) = true := decide_eq_true hqn
  have h0 : R = 0 := by
   rw [HR.out, hx, List.getElem?_eq_none (by omega)]
   simp
  rw [h0]
  clear h hd hq hp hx hR hn h0
  go_enter Try.func83, Try.ntmps83
  go_wp2_with fail
  go_ret
  exact ⟨rfl, HB.out⟩
 ·
  have t1 : decide ((q : Int) ≥ (n : Int)) = false := decide_eq_false (by omega)
  have t2 : decide ((n : Int) ≤ (q : Int)) = false := t1
  have t3 : decide (n ≤ q) = false := decide_eq_false hqn
  obtain ⟨b, off, rfl, hbl, hcl⟩ := h.at_ (by omega)
  have cl := hcl q (by omega)
  rw [← hx] at cl
  have j1 : (0 : Int) ≤ (q : Int) := by omega
  have j2 : (q : Int) < (n : Int) := by omega
  clear h hd hq hp hx hR hn hcl
  go_enter Try.func83, Try.ntmps83
  go_wp2_with fail
  go_ret
  refine ⟨ret_int ?_, HB.out⟩
  rw [HR.out]
  exact bit_int hx9
abbrev spv (v : Cv) : Value := .agg #[.bool v.sx, .slice v.ax v.xs.length v.cx, .bool v.sy, .slice v.ay v.ys.length v.cy]
def SpAt (w : World) (b o : Nat) (v : Cv) : Prop :=
 w.cell? ⟨b, o, none⟩ = some (.bool v.sx) ∧ w.cell? ⟨b, o + 1, none⟩ = some (.slice v.ax v.xs.length v.cx) ∧ w.cell? ⟨b, o + 2, none⟩ = some (.bool v.sy) ∧ w.cell? ⟨b, o + 3, none⟩ = some (.slice v.ay v.ys.length v.cy)
theorem SpAt.below {w w' : World} {b o : Nat} {v : Cv} (h : SpAt w b o v) (hb : w'.heap[b]? = w.heap[b]?) : SpAt w' b o v := by
 obtain ⟨h1, h2, h3, h4⟩ := h
 exact ⟨(World.cell?_of_block (w := w) hb).trans h1, (World.cell?_of_block (w := w) hb).trans h2, (World.cell?_of_block (w := w) hb).trans h3, (World.cell?_of_block (w := w) hb).trans h4⟩
theorem SpAt.new (w : World) (v : Cv) (t : TypeId) : SpAt (w.alloc (.cells #[.bool v.sx, .slice v.ax v.xs.length v.cx, .bool v.sy, .slice v.ay v.ys.length v.cy] t)) w.heap.size 0 v := by
 have h := heap_alloc_new w (.cells #[.bool v.sx, .slice v.ax v.xs.length v.cx, .bool v.sy, .slice v.ay v.ys.length v.cy] t)
 refine ⟨?_, ?_, ?_, ?_⟩ <;> (rw [cell_of_row _ _ _ _ _ _ h]; rfl)
set_option maxHeartbeats 3200000 in
theorem quarter_lk (v : Cv) (m : Nat) (w : World) (h : CvU w v) (h1 : v.xs.length ≤ 60000) (h2 : v.ys.length ≤ 60000) (hm : m ≤ 100000) :
  Calls Try.prog 51 #[spv v, .int .i64 ((m : Int) + 1)] w fun e w' => e = .returned (.int .i64 (quaC v m : Nat)) ∧ Below w.heap.size w w' := by
 have hv1 := h.1.cap
 have hv2 := h.2.1.cap
 have hb := Below.drew' ((Below.refl w.heap.size w).alloc (Nat.le_refl _) (.cells #[.bool v.sx, .slice v.ax v.xs.length v.cx, .bool v.sy, .slice v.ay v.ys.length v.cy] 71))
 have hs : SpAt (w.alloc (.cells #[.bool v.sx, .slice v.ax v.xs.length v.cx, .bool v.sy, .slice v.ay v.ys.length v.cy] 71)).drew w.heap.size 0 v := SpAt.new w v _
 have HS := Lib.hid hs
 have HB := Lib.hid hb
 have HU := Lib.hid (h.below hb)
 have HL := Lib.hid (show w.heap.size < (w.alloc (.cells #[.bool v.sx, .slice v.ax v.xs.length v.cx, .bool v.sy, .slice v.ay v.ys.length v.cy] 71)).drew.heap.size from World.block_lt_of_cell? _ _ hs.1)
 obtain ⟨c1, c2, c3, c4⟩ := hs
 obtain ⟨a, ha⟩ : ∃ a, a = val v.xs / 2 ^ m % 2 := ⟨_, rfl⟩
 obtain ⟨b, hbb⟩ : ∃ b, b = val v.ys / 2 ^ m % 2 := ⟨_, rfl⟩
 have hR : quaC v m = a + 2 * b := by rw [ha, hbb]; rfl
 rw [hR]
 have HA := Lib.hid ha
 have HBB := Lib.hid hbb
 have ha2 : a = 0 ∨ a = 1 := by omega
 have hb2 : b = 0 ∨ b = 1 := by omega
 have q0 : True := trivial
 have f0 : IntKind.i64.wrap ((m : Int) + 1 - 1) = (m : Int) := by rw [show (m : Int) + 1 - 1 = (m : Int) by omega]; exact IntWalk.i64_in _ (by omega)
 have f1 : IntKind.i64.wrap (m : Int) = (m : Int) := IntWalk.i64_in _ (by omega)
 clear h hb ha hbb hR
 go_enter Try.func51, Try.ntmps51
 go_wp2_with fail
 go_region_held3 (fun w' => w'.cell? ⟨w.heap.size, 0, none⟩ = some (.bool v.sx) ∧ w'.cell? ⟨w.heap.size, 1, none⟩ = some (.slice v.ax v.xs.length v.cx) ∧ w'.cell? ⟨w.heap.size, 2, none⟩ = some (.bool v.sy) ∧ w'.cell? ⟨w.heap.size, 3, none⟩ = some (.slice v.ay v.ys.length v.cy))
  (first | go_keep | exact ⟨k1, k2, k3, k4⟩)
  (first
  | (have _t := q0; go_at_call 83; clear _t; go_loud (refine (bit_lk v.sx v.ax v.cx v.xs m _ HU.out.1 h1 hm).mono ?_; rintro e w1 ⟨rfl, b1⟩; rw [← HA.out]; have B1 := Lib.hid b1; obtain ⟨k1, k2, k3, k4⟩ := HS.out.below (b1.block _ HL.out); clear b1; have q1 := q0; clear q0))
  | (have _t := q1; go_at_call 83; clear _t; go_loud (refine (bit_lk v.sy v.ay v.cy v.ys m _ (HU.out.2.1.below B1.out) h2 hm).mono ?_; rintro e w2 ⟨rfl, b2⟩; rw [← HBB.out]; have B2 := Lib.hid (B1.out.trans (b2.mono B1.out.size)); obtain ⟨k1, k2, k3, k4⟩ := HS.out.below (B2.out.block _ HL.out); clear b2; have q2 := q1; clear q1)))
 go_wp2_with fail
 go_ret
 refine ⟨?_, HB.out.trans (B2.out.mono HB.out.size)⟩
 show Ending.returned (Value.int .i64 (bits .or .i64 (a : Int) (IntKind.i64.wrap ((b : Int) * 2)))) = _
 clear HA HBB
 rcases ha2 with rfl | rfl <;> rcases hb2 with rfl | rfl <;> rfl
theorem big_cells {V : World} {g : Nat} {s : Bool} {A : Option Addr} {n c : Nat} (h : V.heap[g]? = some (.cells #[.bool s, .slice A n c] 25)) : V.cell? ⟨g, 0, none⟩ = some (.bool s) ∧ V.cell? ⟨g, 1, none⟩ = some (.slice A n c) :=
 ⟨by rw [cell_of_row _ _ _ _ _ (0, 0) h]; rfl, by rw [cell_of_row _ _ _ _ _ (0, 0) h]; rfl⟩
def RetSp (X Y : Int) (w : World) (e : Ending) (w' : World) : Prop :=
 ∃ v : Cv, e = .returned (spv v) ∧ CvU w' v ∧ CanonI v.sx v.xs ∧ CanonI v.sy v.ys ∧ ival v.sx v.xs = X ∧ ival v.sy v.ys = Y ∧ Below w.heap.size w w'
set_option maxHeartbeats 3200000 in
theorem inside_lk (s t : Bool) (A B : Option Addr) (c d : Nat) (xs ys : List Nat) (m : Nat) (w : World) (h : Us w A c xs) (k : Us w B d ys) (hl : xs.length ≤ 50000) (kl : ys.length ≤ 50000) (hm : m ≤ 1330) :
  Calls Try.prog 43 #[.agg #[.bool s, .slice A xs.length c], .agg #[.bool t, .slice B ys.length d], .int .i64 ((m : Int) + 1)] w (RetSp (ival s xs + p2 m) (ival t ys + p2 m) w) := by
 have hcap := h.cap
 have kcap := k.cap
 obtain ⟨W, hW⟩ : ∃ W : World, W = ((w.alloc (.cells #[.bool s, .slice A xs.length c] 25)).alloc (.cells #[.bool t, .slice B ys.length d] 25)).alloc (.cells #[.bool false, .slice none 0 0, .bool false, .slice none 0 0] 71) := ⟨_, rfl⟩
 have hb : Below w.heap.size w W := by rw [hW]; exact (((Below.refl _ w).alloc (Nat.le_refl _) _).alloc (by simp) _).alloc (by simp; omega) _
 have hX : W.heap[w.heap.size]? = some (.cells #[.bool s, .slice A xs.length c] 25) := by
  rw [hW]
  exact (Below.heap_alloc _ _ _ (by simp; omega)).trans ((Below.heap_alloc _ _ _ (by simp)).trans (heap_alloc_new w _))
 have hY : W.heap[w.heap.size + 1]? = some (.cells #[.bool t, .slice B ys.length d] 25) := by
  have h := heap_alloc_new (w.alloc (.cells #[.bool s, .slice A xs.length c] 25)) (.cells #[.bool t, .slice B ys.length d] 25)
  rw [show (w.alloc (.cells #[.bool s, .slice A xs.length c] 25)).heap.size = w.heap.size + 1 by simp] at h
  rw [hW]
  exact (Below.heap_alloc _ _ _ (by simp)).trans h
 have hP : W.heap[w.heap.size + 1 + 1]? = some (.cells #[.bool false, .slice none 0 0, .bool false, .slice none 0 0] 71) := by
  have h := heap_alloc_new ((w.alloc (.cells #[.bool s, .slice A xs.length c] 25)).alloc (.cells #[.bool t, .slice B ys.length d] 25)) (.cells #[.bool false, .slice none 0 0, .bool false, .slice none 0 0] 71)
  rw [show ((w.alloc (.cells #[.bool s, .slice A xs.length c] 25)).alloc (.cells #[.bool t, .slice B ys.length d] 25)).heap.size = w.heap.size + 1 + 1 by simp] at h
  rw [hW]
  exact h
 have HSZ := Lib.hid (show w.heap.size + 1 + 1 < W.heap.size from (Array.getElem?_eq_some_iff.1 hP).1)
 have HX := Lib.hid hX
 have HY := Lib.hid hY
 have HP := Lib.hid hP
 have HB := Lib.hid hb
 have HW := Lib.hid hW
 have H1 := Lib.hid (h.below hb)
 have H2 := Lib.hid (k.below hb)
 have hmm := p2_mono (show m ≤ 1330 by omega)
 have hpm := p2_pos m
 have HPM := Lib.hid (show -p2 1330 ≤ p2 m ∧ p2 m ≤ p2 1330 from ⟨by omega, hmm⟩)
 have q0 : True := trivial
 clear h k hX hY hP hb hW hmm hpm
 go_enter Try.func43, Try.ntmps43
 go_wp2_with (go_at_call 78; go_loud (rw [← HW.out]; refine (bpow_any _ _).mono ?_; rintro e w5 ⟨A5, c5, s5, r5, rfl, u5, k5, v5, b5⟩; rw [pow_p2 m (by omega)] at v5; have L5 := Lib.hid (len_near k5 v5 HPM.out.1 HPM.out.2); have hcap5 := u5.cap; have U5 := Lib.hid u5; have V5 := Lib.hid v5; have B5 := Lib.hid b5; clear u5 k5 v5 b5))
 obtain ⟨W6, hW6⟩ : ∃ W6 : World, W6 = (w5.alloc (.cells #[.bool s5, .slice A5 r5.length c5] 25)).drew := ⟨_, rfl⟩
 have hb6 : Below W.heap.size W W6 := by rw [hW6]; exact Below.drew' (B5.out.alloc B5.out.size _)
 have hH : W6.heap[w5.heap.size]? = some (.cells #[.bool s5, .slice A5 r5.length c5] 25) := by rw [hW6]; exact heap_alloc_new w5 _
 have hbl : Below w5.heap.size w5 W6 := by rw [hW6]; exact Below.drew' ((Below.refl _ w5).alloc (Nat.le_refl _) _)
 have HX6 := Lib.hid ((hb6.block w.heap.size (by have := HSZ.out; omega)).trans HX.out)
 have HY6 := Lib.hid ((hb6.block (w.heap.size + 1) (by have := HSZ.out; omega)).trans HY.out)
 have HP6 := Lib.hid ((hb6.block (w.heap.size + 1 + 1) HSZ.out).trans HP.out)
 have HH6 := Lib.hid hH
 have U6 := Lib.hid (U5.out.below hbl)
 have H16 := Lib.hid (H1.out.below hb6)
 have H26 := Lib.hid (H2.out.below hb6)
 have HB6 := Lib.hid (HB.out.trans (hb6.mono HB.out.size))
 obtain ⟨x1, x2⟩ := big_cells HX6.out
 obtain ⟨y1, y2⟩ := big_cells HY6.out
 obtain ⟨z1, z2⟩ := big_cells hH
 rw [hW6] at x1 x2 y1 y2 z1 z2 H16 H26 U6 HX6 HY6 HP6 HH6 HB6
 have hs5 := B5.out.size
 have hs6 := HSZ.out
 have n1 : ¬ w5.heap.size = w.heap.size + 1 + 1 := by omega
 have n2 : ¬ w.heap.size + 1 + 1 = w5.heap.size := by omega
 have n3 : ¬ w.heap.size + 1 + 1 = w.heap.size := by omega
 have n4 : ¬ w.heap.size = w.heap.size + 1 + 1 := by omega
 have n5 : ¬ w.heap.size + 1 + 1 = w.heap.size + 1 := by omega
 have n6 : ¬ w.heap.size + 1 = w.heap.size + 1 + 1 := by omega
 clear hb6 hH hbl hW6 hs5 hs6
 go_region_held3 (fun w' => w'.cell? ⟨w.heap.size, 0, none⟩ = some (.bool s) ∧ w'.cell? ⟨w.heap.size, 1, none⟩ = some (.slice A xs.length c) ∧ w'.cell? ⟨w.heap.size + 1, 0, none⟩ = some (.bool t) ∧ w'.cell? ⟨w.heap.size + 1, 1, none⟩ = some (.slice B ys.length d) ∧ w'.cell? ⟨w5.heap.size, 0, none⟩ = some (.bool s5) ∧ w'.cell? ⟨w5.heap.size, 1, none⟩ = some (.slice A5 r5.length c5))
  (first | exact ⟨x1, x2, y1, y2, z1, z2⟩ | go_keep | ((try dsimp only); (repeat' apply And.intro); all_goals go_keep))
  (first
   | (have _t := q0; go_at_call 79; clear _t; go_loud (refine (badd_any s s5 _ _ _ _ xs r5 _ H16.out U6.out (by omega) (by have := L5.out; omega)).mono ?_; rintro e w7 ⟨A7, c7, s7, r7, rfl, u7, k7, v7, b7⟩; rw [V5.out] at v7; have hcap7 := u7.cap; obtain ⟨x1, x2⟩ := big_cells ((b7.block _ (Array.getElem?_eq_some_iff.1 HX6.out).1).trans HX6.out); obtain ⟨y1, y2⟩ := big_cells ((b7.block _ (Array.getElem?_eq_some_iff.1 HY6.out).1).trans HY6.out); obtain ⟨z1, z2⟩ := big_cells ((b7.block _ (Array.getElem?_eq_some_iff.1 HH6.out).1).trans HH6.out); have B7 := Lib.hid b7; have U7 := Lib.hid u7; have K7 := Lib.hid k7; have V7 := Lib.hid v7; clear u7 k7 v7 b7; have q1 := q0; clear q0))
   | (have _t := q1; go_at_call 79; clear _t; go_loud (refine (badd_any t s5 _ _ _ _ ys r5 _ (H26.out.below B7.out) (U6.out.below B7.out) (by omega) (by have := L5.out; omega)).mono ?_; rintro e w8 ⟨A8, c8, s8, r8, rfl, u8, k8, v8, b8⟩; rw [V5.out] at v8; have hcap8 := u8.cap; have b78 := B7.out.trans (b8.mono B7.out.size); obtain ⟨x1, x2⟩ := big_cells ((b78.block _ (Array.getElem?_eq_some_iff.1 HX6.out).1).trans HX6.out); obtain ⟨y1, y2⟩ := big_cells ((b78.block _ (Array.getElem?_eq_some_iff.1 HY6.out).1).trans HY6.out); obtain ⟨z1, z2⟩ := big_cells ((b78.block _ (Array.getElem?_eq_some_iff.1 HH6.out).1).trans HH6.out); have P8 := Lib.hid ((b78.block _ (Array.getElem?_eq_some_iff.1 HP6.out).1).trans HP6.out); have p0 := cell_of_row _ _ 0 _ _ (0, 0) P8.out; have p1 := cell_of_row _ _ 1 _ _ (0, 0) P8.out; have p2_ := cell_of_row _ _ 2 _ _ (0, 0) P8.out; have p3 := cell_of_row _ _ 3 _ _ (0, 0) P8.out; have f0 := frozen_of_row _ _ 0 _ _ P8.out; have f1 := frozen_of_row _ _ 1 _ _ P8.out; have f2 := frozen_of_row _ _ 2 _ _ P8.out; have f3 := frozen_of_row _ _ 3 _ _ P8.out; have B8 := Lib.hid b78; have U78 := Lib.hid (U7.out.below b8); have U8 := Lib.hid u8; have K8 := Lib.hid k8; have V8 := Lib.hid v8; clear u8 k8 v8 b8 b78; have q2 := q1; clear q1)))
 go_wp2_with fail
 obtain ⟨g, hg⟩ : ∃ g, g = w.heap.size + 1 + 1 := ⟨_, rfl⟩
 have P8' := P8.out
 rw [← hg] at P8' ⊢
 have hG := gb_two (gb_two (gb_two (setC_one w8 g 0 (.bool s7)) (setC_one _ g 1 (.slice A7 r7.length c7))) (setC_one _ g 2 (.bool s8))) (setC_one _ g 3 (.slice A8 r8.length c8))
 obtain ⟨Wf, hWf⟩ : ∃ V : World, V = (((w8.setCell ⟨g, 0, none⟩ (.bool s7)).setCell ⟨g, 1, none⟩ (.slice A7 r7.length c7)).setCell ⟨g, 2, none⟩ (.bool s8)).setCell ⟨g, 3, none⟩ (.slice A8 r8.length c8) := ⟨_, rfl⟩
 have P9 : Wf.heap[g]? = some (.cells #[.bool s7, .slice A7 r7.length c7, .bool s8, .slice A8 r8.length c8] 71) := by
  rw [hWf]
  exact ((heap_setCell_same _ g 3 _ _ _ ((heap_setCell_same _ g 2 _ _ _ ((heap_setCell_same _ g 1 _ _ _ ((heap_setCell_same w8 g 0 _ _ _ P8').trans rfl)).trans rfl)).trans rfl)).trans rfl)
 rw [← hWf] at hG ⊢
 have hlim : ∀ o v, w8.cell? ⟨g, o, none⟩ = some v → ∀ k, v ≠ .int .u32 k := fun o v hv k e => by
  rw [cell_of_row _ _ o _ _ (0, 0) P8'] at hv
  subst e
  match o with
  | 0 => cases hv
  | 1 => cases hv
  | 2 => cases hv
  | 3 => cases hv
  | o + 4 => simp at hv
 have hus : ∀ {A : Option Addr} {c : Nat} {xs : List Nat}, Us w8 A c xs → Us Wf A c xs := fun hu => us_kept hu (fun q h1 h3 => hG.block q h1 (fun e => h3 (Option.some.inj e))) hG.size (us_off hu hlim)
 have e0 := cell_of_row _ _ 0 _ _ (0, 0) P9
 have e1 := cell_of_row _ _ 1 _ _ (0, 0) P9
 have e2 := cell_of_row _ _ 2 _ _ (0, 0) P9
 have e3 := cell_of_row _ _ 3 _ _ (0, 0) P9
 refine bodyPost_ret (v := .agg #[.bool s7, .slice A7 r7.length c7, .bool s8, .slice A8 r8.length c8]) (by simp [results, Try.results43, go_sem, e0, e1, e2, e3]) rfl ?_
 exact ⟨⟨s7, A7, c7, r7, s8, A8, c8, r8, 0⟩, rfl, ⟨hus U78.out, hus U8.out, Nat.zero_le _⟩, K7.out, K8.out, V7.out, V8.out, (HB6.out.trans (B8.out.mono HB6.out.size)).grown hG (Nat.le_trans HB6.out.size B8.out.size) (fun q hq => by rw [← Option.some.inj hq, hg]; omega)⟩
end Go.Proofs.Ytlnmcilcifbcnaa

namespace Go.Proofs.Ytlnmcilcifbcnaa
open Go.RowKit Num Nds
theorem p2_nat (i : Nat) : p2 i = ((2 ^ i : Nat) : Int) := p2_cast i
theorem qt_bits (i X Y : Nat) : qtI (p2 i) ((X % 2 ^ (i + 1) : Nat) : Int) ((Y % 2 ^ (i + 1) : Nat) : Int) = X / 2 ^ i % 2 + 2 * (Y / 2 ^ i % 2) ∧ subI (p2 i) ((X % 2 ^ (i + 1) : Nat) : Int) = ((X % 2 ^ i : Nat) : Int) := by
 have key : ∀ X : Nat, X % 2 ^ (i + 1) = X % 2 ^ i + 2 ^ i * (X / 2 ^ i % 2) := fun X => Nat.mod_pow_succ
 have hp := Nat.two_pow_pos i
 have one : ∀ X : Nat, (((X % 2 ^ (i + 1) : Nat) : Int) < p2 i ↔ X / 2 ^ i % 2 = 0) := fun X => by
  have h1 := Nat.mod_lt X hp
  rw [key X, p2_nat]
  have h2 : X / 2 ^ i % 2 = 0 ∨ X / 2 ^ i % 2 = 1 := by omega
  rcases h2 with h | h
  ·
   rw [h, Nat.mul_zero, Nat.add_zero]
   exact ⟨fun _ => rfl, fun _ => by omega⟩
  ·
   rw [h, Nat.mul_one]
   constructor
   ·
    intro h3; omega
   ·
    intro h3; omega
 refine ⟨?_, ?_⟩
 ·
  unfold qtI
  have hx : X / 2 ^ i % 2 = 0 ∨ X / 2 ^ i % 2 = 1 := by omega
  have hy : Y / 2 ^ i % 2 = 0 ∨ Y / 2 ^ i % 2 = 1 := by omega
  rcases hx with h | h <;> rcases hy with k | k
  ·
   rw [if_pos ((one X).2 h), if_pos ((one Y).2 k), h, k]
  ·
   rw [if_pos ((one X).2 h), if_neg (fun e => by have := (one Y).1 e; omega), h, k]
  ·
   rw [if_neg (fun e => by have := (one X).1 e; omega), if_pos ((one Y).2 k), h, k]
  ·
   rw [if_neg (fun e => by have := (one X).1 e; omega), if_neg (fun e => by have := (one Y).1 e; omega), h, k]
 ·
  unfold subI
  have hx : X / 2 ^ i % 2 = 0 ∨ X / 2 ^ i % 2 = 1 := by omega
  rcases hx with h | h
  ·
   rw [if_pos ((one X).2 h), key X, h, Nat.mul_zero, Nat.add_zero]
  ·
   rw [if_neg (fun e => by have := (one X).1 e; omega), key X, h, Nat.mul_one, p2_nat]
   omega
def getQ (q : List Nd) (X Y : Int) : Int := cellM (den q q.length) X Y
theorem last_wf {q : List Nd} (hq : looseB q = true) {m : Nat} (hl : levelZ q = (m : Int) + 1) : ∃ p, q.length = p + 1 ∧ (at_ q p).lv = (m : Int) + 1 ∧ wfT ((m + 1 : Nat) : Int) (den q (p + 1)) := by
 unfold levelZ at hl
 by_cases h0 : q = []
 ·
  rw [if_pos h0] at hl
  omega
 ·
  rw [if_neg h0] at hl
  have h1 := List.length_pos_iff.2 h0
  refine ⟨q.length - 1, by omega, hl, ?_⟩
  have h2 := wf_den hq (q.length - 1) (by omega)
  rwa [hl, show (m : Int) + 1 = ((m + 1 : Nat) : Int) by omega] at h2
theorem getQ_out {q : List Nd} (hq : looseB q = true) {X Y : Int} (h : levelZ q < ((max (rcI X) (rcI Y) : Nat) : Int) + 1) : getQ q X Y = 0 := by
 unfold getQ
 by_cases h0 : q = []
 ·
  subst h0
  show cellM (den [] 0) X Y = 0
  rw [den_zero]
  rfl
 ·
  have hlv : 1 ≤ levelZ q := by
   unfold levelZ
   rw [if_neg h0]
   have h1 := List.length_pos_iff.2 h0
   exact (fit_lv (loose_fit hq (i := q.length - 1) (by omega))).1
  obtain ⟨m, hm⟩ : ∃ m : Nat, levelZ q = (m : Int) + 1 := ⟨(levelZ q - 1).toNat, by omega⟩
  obtain ⟨p, hp, -, hw⟩ := last_wf hq hm
  rw [hp, cellM_wf hw]
  refine cell_out hw fun hin => ?_
  have ep := p2_succ m
  have h1 : rcI X ≤ m := (rc_iff X m).2 (by omega)
  have h2 : rcI Y ≤ m := (rc_iff Y m).2 (by omega)
  omega
theorem getQ_in {q : List Nd} (hq : looseB q = true) {m : Nat} (hl : levelZ q = (m : Int) + 1) {X Y : Int} (hX : -p2 m ≤ X ∧ X < p2 m) (hY : -p2 m ≤ Y ∧ Y < p2 m) (hm : m ≤ 1328) : getQ q X Y = getF (m + 1) q (q.length : Int) (X + p2 m) (Y + p2 m) ∧ kidB q (((m + 1 : Nat) : Int) + 1) (q.length : Int) = true := by
 obtain ⟨p, hp, hlv, hw⟩ := last_wf hq hl
 have ep := p2_succ m
 have hne : (((m + 1 : Nat)) : Int) + 1 ≠ 1 := by omega
 have hk : kidB q (((m + 1 : Nat) : Int) + 1) (q.length : Int) = true := by
  rw [hp, show (((p + 1 : Nat)) : Int) = (p : Int) + 1 by omega, kidB_in _ _ _ hne (by omega)]
  exact decide_eq_true (by rw [hlv]; omega)
 refine ⟨?_, hk⟩
 rw [get_spec hq (m := m + 1) (by omega) hk (by omega) (by omega) (by omega) (by omega), kidT_den hne, Int.toNat_natCast]
 unfold getQ
 rw [hp, cellM_wf hw]
theorem getF_zero (m : Nat) (q : List Nd) (x y : Int) : getF m q 0 x y = 0 := by
 cases m with
 | zero => rfl
 | succ m => unfold getF; rw [if_pos rfl]
theorem getQ_byte {q : List Nd} (hq : looseB q = true) (X Y : Int) : 0 ≤ getQ q X Y ∧ getQ q X Y ≤ 255 := by
 have key : ∀ (t : Tr) (n : Nat) (x y : Int), wfT (n : Int) t → 0 ≤ cellC t x y ∧ cellC t x y ≤ 255 := by
  intro t
  induction t with
  | e => intro n x y _; exact ⟨Int.le_refl 0, by show (0 : Int) ≤ 255; omega⟩
  | s k =>
   intro n x y h
   show 0 ≤ (if x = 0 ∧ y = 0 then k else 0) ∧ (if x = 0 ∧ y = 0 then k else 0) ≤ 255
   have := h.2
   split <;> omega
  | n v a b c d iha ihb ihc ihd =>
   intro n x y h
   obtain ⟨m, rfl, rfl, ha, hb, hc, hd, _⟩ := wf_n h
   show 0 ≤ cellC (.n _ a b c d) x y ∧ _
   unfold cellC
   split <;> split
   ·
    exact iha m _ _ ha
   ·
    exact ihc m _ _ hc
   ·
    exact ihb m _ _ hb
   ·
    exact ihd m _ _ hd
 unfold getQ
 obtain ⟨v, hv⟩ := wf_denn hq (Nat.le_refl q.length)
 have hw : ∃ n : Nat, wfT (n : Int) (den q q.length) := by
  generalize den q q.length = t at hv
  cases t with
  | e => exact ⟨0, trivial⟩
  | s k => exact ⟨0, by rw [show ((0 : Nat) : Int) = v from hv.1.symm]; exact hv⟩
  | n u a b c d =>
   have h1 := hv.1
   have h2 := hv.2.1
   exact ⟨v.toNat, by rwa [show ((v.toNat : Nat) : Int) = v by omega]⟩
 obtain ⟨n, hn⟩ := hw
 exact key _ n _ _ hn
end Go.Proofs.Ytlnmcilcifbcnaa

namespace Go.Proofs.Ytlnmcilcifbcnaa
open Go.RowKit Num Nds
structure GetR (q : List Nd) (R : Int) (X Y : Nat) (j : Nat) (k : Int) : Prop where
 fits : kidB q ((j : Int) + 1) k = true
 got : getF j q k ((X % 2 ^ j : Nat) : Int) ((Y % 2 ^ j : Nat) : Int) = R
theorem GetR.last {q : List Nd} {R : Int} {X Y : Nat} {k : Int} (h : GetR q R X Y 0 k) : k = R := h.got
theorem GetR.none {q : List Nd} {R : Int} {X Y j : Nat} (h : GetR q R X Y j 0) : R = 0 := by
 rw [← h.got, getF_zero]
theorem GetR.some {q : List Nd} {R : Int} {X Y j : Nat} {k : Int} (h : GetR q R X Y (j + 1) k) : k = 0 ∨ ∃ p : Nat, k = (p : Int) + 1 ∧ p < q.length := by
 rcases kid_up (show (((j + 1 : Nat)) : Int) + 1 ≠ 1 by omega) h.fits with h | ⟨p, h, hp, -⟩
 ·
  exact .inl h
 ·
  exact .inr ⟨p, h, hp⟩
theorem GetR.step {q : List Nd} (hq : looseB q = true) {R : Int} {X Y j p : Nat} (hj : j ≤ 1328) (h : GetR q R X Y (j + 1) ((p : Int) + 1)) : GetR q R X Y j ((at_ q p).kid (qtr j X Y)) := by
 obtain ⟨h1, h2⟩ := h
 obtain ⟨f1, f2, -⟩ := node_fit hq hj h1
 have hne : ¬ (p : Int) + 1 = 0 := by omega
 have e : nodeF j q ((p : Int) + 1) = at_ q p := by
  unfold nodeF
  rw [if_neg hne, show ((p : Int) + 1 - 1).toNat = p by omega]
 rw [e] at f1 f2
 obtain ⟨b1, b2⟩ := qt_bits j X Y
 obtain ⟨-, b3⟩ := qt_bits j Y X
 have hqt : qtI (p2 j) ((X % 2 ^ (j + 1) : Nat) : Int) ((Y % 2 ^ (j + 1) : Nat) : Int) = qtr j X Y := b1
 have hlt : qtr j X Y < 4 := by rw [← hqt]; exact qtI_lt _ _ _
 refine ⟨?_, ?_⟩
 ·
  have := fit_kid f1 hlt
  rwa [f2] at this
 ·
  unfold getF at h2
  rw [if_neg hne, e, hqt, b2, b3] at h2
  exact h2
theorem GetR.start {q : List Nd} (hq : looseB q = true) {m : Nat} (hl : levelZ q = (m : Int) + 1) {X Y : Int} (hX : -p2 m ≤ X ∧ X < p2 m) (hY : -p2 m ≤ Y ∧ Y < p2 m) (hm : m ≤ 1328) {x y : Nat} (hx : (x : Int) = X + p2 m) (hy : (y : Int) = Y + p2 m) : GetR q (getQ q X Y) x y (m + 1) (q.length : Int) := by
 obtain ⟨h1, h2⟩ := getQ_in hq hl hX hY hm
 have ep := p2_succ m
 have ep1 := p2_nat (m + 1)
 refine ⟨h2, ?_⟩
 rw [Nat.mod_eq_of_lt (show x < 2 ^ (m + 1) by omega), Nat.mod_eq_of_lt (show y < 2 ^ (m + 1) by omega), hx, hy]
 exact h1.symm
end Go.Proofs.Ytlnmcilcifbcnaa
