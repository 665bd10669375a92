/-
  cells, the reference: Last.
  cells, the reference: List.
-/
import Derived.Test.YtmfncapgikobkaaGreatGClLa
import Derived.Test.YtmfncapgikobkaaGreatGClSa
import Derived.Deep.RegionHeld3
import Derived.BigQuiet
import Derived.Test.YtmfncapgikobkaaGreatGClRa
import Derived.Test.YtmfncapgikobkaaGreatGClPb
import Derived.Test.YtmfncapgikobkaaGreatLay0

namespace Go.Proofs.YtmfncapgikobkaaGreat
set_option maxRecDepth 100000
set_option linter.unusedVariables false
set_option linter.unusedSimpArgs false
open Go.RowKit Nds Num
def RetLa (l : List Cv) (w : World) (e : Ending) (w' : World) : Prop :=
 ∃ v out, e = .returned v ∧ out.map Cv.cl = lastF (l.map Cv.cl) ∧ (∀ u ∈ out, u ∈ l) ∧ OwnC w' w.heap.size v out ∧ Below w.heap.size w w'
set_option maxRecDepth 100000 in
set_option maxHeartbeats 6400000 in
theorem rclast_any (A : Option Addr) (c n : Nat) (l : List Cv) (w : World) (h : Cs w A c l) (hn : l.length = n) (hR : ∀ v ∈ l, CvR v) (hn9 : n ≤ 900000) :
  Calls Tryz.prog 20 #[.slice A n c] w (RetLa l w) := by
 have hcap := h.cap
 rw [hn] at hcap
 have HC := Lib.hid h
 have HN := Lib.hid hn
 have HR := Lib.hid hR
 clear h hR hn
 go_enter Tryz.func20, Tryz.ntmps20
 go_wp2_with fail
 go_loopw [4, 3] (fun z v wr => ∃ (i : Nat), i ≤ n ∧ z = .int .i64 i ∧ OwnC wr w.heap.size v (insVs (l.take i)) ∧ Below w.heap.size w wr) (fun z _ _ => n - (intOf z).toNat)
 case atStart => exact ⟨0, Nat.zero_le _, rfl, OwnC.nil _ _, Below.refl _ _⟩
 case round =>
  obtain ⟨i, hi, rfl, hown, hb⟩ := hrel
  have HB := Lib.hid hb
  obtain ⟨hsp1, hsp2, hsp3⟩ := insVs_spec l i (by rw [HN.out]; exact hi)
  obtain ⟨M, hM⟩ : ∃ M, M = insVs (l.take i) := ⟨_, rfl⟩
  rw [← hM] at hown hsp2 hsp3
  have HM := Lib.hid hM
  have HIN := Lib.hid hsp2
  have HOW := Lib.hid hown
  obtain ⟨m, hm⟩ : ∃ m, m = M.length := ⟨_, rfl⟩
  have hml : m ≤ 900000 := by omega
  have HML := Lib.hid hm
  have hcu : ∀ u ∈ l, CvU wr u := fun u hu => (HC.out.1 u hu).below hb
  obtain ⟨D, d, rfl, hcs, hD, hge⟩ := hown.cs (fun u hu => hcu u (hsp2 u hu))
  have hsh := HOW.out.shape
  have HSG := Lib.hid (show ∀ a, D = some a → ∃ g, a = ⟨g, 0, none⟩ from by
   obtain ⟨A', c', e', -, -, -, h5⟩ := hsh
   cases e'
   exact fun a ea => by obtain ⟨g, hg, _⟩ := h5 a ea; exact ⟨g, hg⟩)
  rw [← hm] at HOW ⊢
  have hcap2 := hcs.cap
  rw [← hm] at hcap2
  have HCS := Lib.hid hcs
  have HD := Lib.hid (And.intro hD hge)
  have HCU := Lib.hid hcu
  clear hsp1 hsp2 hsp3 hM hown hm hcu hcs hD hge hb hsh
  by_cases hlt : i < n
  ·
   have i1 : (i : Int) < (n : Int) := by omega
   have i2 : (0 : Int) ≤ (i : Int) := by omega
   have t1 : decide ((i : Int) < (n : Int)) = true := decide_eq_true i1
   obtain ⟨b, off, rfl, hbl, hcl⟩ := (HC.out.below HB.out).at_ (by rw [HN.out]; omega)
   have hcx := hcl i (by rw [HN.out]; exact hlt)
   have hmx := cat_mem (l := l) (i := i) (by rw [HN.out]; exact hlt)
   obtain ⟨x, hx⟩ : ∃ x, x = cat l i := ⟨_, rfl⟩
   rw [← hx] at hcx hmx
   have HXX := Lib.hid hx
   have HXM := Lib.hid hmx
   have hux := HCU.out x hmx
   have hrx := HR.out x hmx
   have p1 := hux.1.cap
   have p2_ := hux.2.1.cap
   have HCX := Lib.hid hcx
   have HBL := Lib.hid hbl
   have HLX := Lib.hid (And.intro hrx.2.2.1 hrx.2.2.2)
   have HUX := Lib.hid hux
   clear hcl hcx hmx hx hrx hbl hux
   go_wp2_with fail
   go_loopw [5] (fun z wx => ∃ p : Nat, p ≤ m ∧ z = .int .i64 p ∧ (∀ j, j < p → ordC (cat M j) x < 0) ∧ Below wr.heap.size wr wx) (fun z _ => m - (intOf z).toNat)
   case atStart => exact ⟨0, Nat.zero_le _, rfl, (fun j hj => by omega), Below.refl _ _⟩
   case round =>
    obtain ⟨p, hp, rfl, hall, hbb⟩ := hrel
    have HA := Lib.hid hall
    have HBB := Lib.hid hbb
    clear hall hbb
    -- inner round
    by_cases hpm : p < m
    ·
     have k1 : (p : Int) < (m : Int) := by omega
     have k2 : (0 : Int) ≤ (p : Int) := by omega
     have t2 : decide ((p : Int) < (m : Int)) = true := decide_eq_true k1
     obtain ⟨g, og, rfl, hgl, hgc⟩ := (HCS.out.below HBB.out).at_ (by rw [← HML.out]; omega)
     have hcy := hgc p (by rw [← HML.out]; exact hpm)
     have hmy := cat_mem (l := M) (i := p) (by rw [← HML.out]; exact hpm)
     obtain ⟨y, hy⟩ : ∃ y, y = cat M p := ⟨_, rfl⟩
     rw [← hy] at hcy hmy
     have HYY := Lib.hid hy
     have HCY := Lib.hid hcy
     have hyl := HIN.out y hmy
     have HYU := Lib.hid ((HCU.out y hyl).below HBB.out)
     have hry := HR.out y hyl
     have HLY := Lib.hid (And.intro hry.2.2.1 hry.2.2.2)
     have k3 := HYU.out.1.cap
     have k4 := HYU.out.2.1.cap
     have HUX2 := Lib.hid (HUX.out.below HBB.out)
     have hbl2 := Nat.lt_of_lt_of_le HBL.out HBB.out.size
     have HCX2 := Lib.hid (HCX.out.below (HBB.out.block b HBL.out))
     have HGL := Lib.hid (And.intro hgl hbl2)
     obtain ⟨r, hr⟩ : ∃ r, r = ordC y x := ⟨_, rfl⟩
     have HRr := Lib.hid hr
     have HPM := Lib.hid hpm
     clear hgc hcy hmy hy hyl hry hr hgl hbl2 hpm
     by_cases hr0 : r < 0
     ·
      have t3 : decide (r < 0) = true := decide_eq_true hr0
      have HR0 := Lib.hid hr0
      clear hr0
      go_wp2_with fail
      have st : Below wr.heap.size wr wr.drew := below_drewN (Below.refl _ wr) 1
      have sy := HCY.out.below ((Below.refl _ wr : Below wr.heap.size wr wr).block g HGL.out.1)
      have sx := HCX2.out.below ((Below.refl _ wr : Below wr.heap.size wr wr).block b HGL.out.2)
      obtain ⟨e1, e2, e3, e4, e5⟩ := sy
      obtain ⟨f1, f2, f3, f4, f5⟩ := sx
      go_region_held3 (fun w' => w'.cell? ⟨g, og + p * 5, none⟩ = some (.bool y.sx) ∧ w'.cell? ⟨g, og + p * 5 + 1, none⟩ = some (.slice y.ax y.xs.length y.cx) ∧ w'.cell? ⟨g, og + p * 5 + 2, none⟩ = some (.bool y.sy) ∧ w'.cell? ⟨g, og + p * 5 + 3, none⟩ = some (.slice y.ay y.ys.length y.cy) ∧ w'.cell? ⟨g, og + p * 5 + 4, none⟩ = some (.int .u8 y.st) ∧ w'.cell? ⟨b, off + i * 5, none⟩ = some (.bool x.sx) ∧ w'.cell? ⟨b, off + i * 5 + 1, none⟩ = some (.slice x.ax x.xs.length x.cx) ∧ w'.cell? ⟨b, off + i * 5 + 2, none⟩ = some (.bool x.sy) ∧ w'.cell? ⟨b, off + i * 5 + 3, none⟩ = some (.slice x.ay x.ys.length x.cy) ∧ w'.cell? ⟨b, off + i * 5 + 4, none⟩ = some (.int .u8 x.st))
       (first | go_keep | exact ⟨e1, e2, e3, e4, e5, f1, f2, f3, f4, f5⟩)
       (first | (go_at_call 51; refine (order_any y x _ (HYU.out.below st) (HUX2.out.below st) HLY.out.1 HLY.out.2 HLX.out.1 HLX.out.2).mono ?_; rintro e w2 ⟨rfl, b2⟩; rw [← HRr.out]; have st2 := st.trans (b2.mono st.size); clear e1 e2 e3 e4 e5 f1 f2 f3 f4 f5; obtain ⟨e1, e2, e3, e4, e5⟩ := HCY.out.below (st2.block g HGL.out.1); obtain ⟨f1, f2, f3, f4, f5⟩ := HCX2.out.below (st2.block b HGL.out.2)))
      all_goals
       have ST2 := Lib.hid st2
       clear st2 st b2 e1 e2 e3 e4 e5 f1 f2 f3 f4 f5
       go_wp2_with fail
       go_roundw
       case rel =>
        refine ⟨p + 1, by have := HPM.out; omega, by go_num, fun j hj => ?_, HBB.out.trans (ST2.out.mono HBB.out.size)⟩
        rcases Nat.lt_or_ge j p with h1 | h1
        ·
         exact HA.out j h1
        ·
         obtain rfl : j = p := by omega
         rw [← HYY.out, ← HRr.out]
         exact HR0.out
       case measure => simp [intOf]; omega
     ·
      have t3 : decide (r < 0) = false := decide_eq_false hr0
      have HR0 := Lib.hid hr0
      clear hr0
      go_wp2_with fail
      have st : Below wr.heap.size wr wr.drew := below_drewN (Below.refl _ wr) 1
      have sy := HCY.out.below ((Below.refl _ wr : Below wr.heap.size wr wr).block g HGL.out.1)
      have sx := HCX2.out.below ((Below.refl _ wr : Below wr.heap.size wr wr).block b HGL.out.2)
      obtain ⟨e1, e2, e3, e4, e5⟩ := sy
      obtain ⟨f1, f2, f3, f4, f5⟩ := sx
      go_region_held3 (fun w' => w'.cell? ⟨g, og + p * 5, none⟩ = some (.bool y.sx) ∧ w'.cell? ⟨g, og + p * 5 + 1, none⟩ = some (.slice y.ax y.xs.length y.cx) ∧ w'.cell? ⟨g, og + p * 5 + 2, none⟩ = some (.bool y.sy) ∧ w'.cell? ⟨g, og + p * 5 + 3, none⟩ = some (.slice y.ay y.ys.length y.cy) ∧ w'.cell? ⟨g, og + p * 5 + 4, none⟩ = some (.int .u8 y.st) ∧ w'.cell? ⟨b, off + i * 5, none⟩ = some (.bool x.sx) ∧ w'.cell? ⟨b, off + i * 5 + 1, none⟩ = some (.slice x.ax x.xs.length x.cx) ∧ w'.cell? ⟨b, off + i * 5 + 2, none⟩ = some (.bool x.sy) ∧ w'.cell? ⟨b, off + i * 5 + 3, none⟩ = some (.slice x.ay x.ys.length x.cy) ∧ w'.cell? ⟨b, off + i * 5 + 4, none⟩ = some (.int .u8 x.st))
       (first | go_keep | exact ⟨e1, e2, e3, e4, e5, f1, f2, f3, f4, f5⟩)
       (first | (go_at_call 51; refine (order_any y x _ (HYU.out.below st) (HUX2.out.below st) HLY.out.1 HLY.out.2 HLX.out.1 HLX.out.2).mono ?_; rintro e w2 ⟨rfl, b2⟩; rw [← HRr.out]; have st2 := st.trans (b2.mono st.size); clear e1 e2 e3 e4 e5 f1 f2 f3 f4 f5; obtain ⟨e1, e2, e3, e4, e5⟩ := HCY.out.below (st2.block g HGL.out.1); obtain ⟨f1, f2, f3, f4, f5⟩ := HCX2.out.below (st2.block b HGL.out.2)))
      all_goals
       have ST2 := Lib.hid st2
       clear st2 st b2 e1 e2 e3 e4 e5 f1 f2 f3 f4 f5
       by_cases hr00 : r = 0
       ·
        have HR00 := Lib.hid hr00
        have t4 : (r == 0) = true := by rw [hr00]; rfl
        clear hr00
        go_wp2_with fail
        have st : Below wr.heap.size wr w2.drew := below_drewN (ST2.out) 1
        have sy := HCY.out.below ((ST2.out : Below wr.heap.size wr w2).block g HGL.out.1)
        have sx := HCX2.out.below ((ST2.out : Below wr.heap.size wr w2).block b HGL.out.2)
        obtain ⟨e1, e2, e3, e4, e5⟩ := sy
        obtain ⟨f1, f2, f3, f4, f5⟩ := sx
        go_region_held3 (fun w' => w'.cell? ⟨g, og + p * 5, none⟩ = some (.bool y.sx) ∧ w'.cell? ⟨g, og + p * 5 + 1, none⟩ = some (.slice y.ax y.xs.length y.cx) ∧ w'.cell? ⟨g, og + p * 5 + 2, none⟩ = some (.bool y.sy) ∧ w'.cell? ⟨g, og + p * 5 + 3, none⟩ = some (.slice y.ay y.ys.length y.cy) ∧ w'.cell? ⟨g, og + p * 5 + 4, none⟩ = some (.int .u8 y.st) ∧ w'.cell? ⟨b, off + i * 5, none⟩ = some (.bool x.sx) ∧ w'.cell? ⟨b, off + i * 5 + 1, none⟩ = some (.slice x.ax x.xs.length x.cx) ∧ w'.cell? ⟨b, off + i * 5 + 2, none⟩ = some (.bool x.sy) ∧ w'.cell? ⟨b, off + i * 5 + 3, none⟩ = some (.slice x.ay x.ys.length x.cy) ∧ w'.cell? ⟨b, off + i * 5 + 4, none⟩ = some (.int .u8 x.st))
         (first | go_keep | exact ⟨e1, e2, e3, e4, e5, f1, f2, f3, f4, f5⟩)
         (first | (go_at_call 51; refine (order_any y x _ (HYU.out.below st) (HUX2.out.below st) HLY.out.1 HLY.out.2 HLX.out.1 HLX.out.2).mono ?_; rintro e w3 ⟨rfl, b2⟩; rw [← HRr.out]; have st2 := st.trans (b2.mono st.size); clear e1 e2 e3 e4 e5 f1 f2 f3 f4 f5; obtain ⟨e1, e2, e3, e4, e5⟩ := HCY.out.below (st2.block g HGL.out.1); obtain ⟨f1, f2, f3, f4, f5⟩ := HCX2.out.below (st2.block b HGL.out.2)))
        all_goals
         have ST3 := Lib.hid st2
         clear st2 st b2 e1 e2 e3 e4 e5 f1 f2 f3 f4 f5
         have hpm := HPM.out
         have hml2 := HML.out
         have CUM := Lib.hid (show ∀ W', Below wr.heap.size wr W' → ∀ u ∈ M, CvU W' u from fun W' q u hu => ((HCU.out u (HIN.out u hu)).below HBB.out).below q)
         have BA := Lib.hid (show Below wr.heap.size wr (w3.alloc (.cells #[] 47)) from ST3.out.alloc ST3.out.size _)
         have HWA := Lib.hid (show w.heap.size ≤ (w3.alloc (.cells #[] 47)).heap.size from Nat.le_trans HB.out.size (Nat.le_trans HBB.out.size BA.out.size))
         have OA := Lib.hid (ownC_start w3 (base := w.heap.size) (Nat.le_trans HB.out.size (Nat.le_trans HBB.out.size ST3.out.size)))
         have CR := Lib.hid ((((HCS.out.below HBB.out).below BA.out)).rest (k := p) (by rw [← HML.out]; omega))
         have HDL := Lib.hid (show (M.drop p).length = m - p by rw [List.length_drop, ← HML.out])
         have HTP := Lib.hid (show (M.take p).length = p by rw [List.length_take, ← HML.out]; omega)
         have HBL2 := Lib.hid HGL.out.2
         have HPUT := Lib.hid (put_in HM.out HXX.out (by rw [HN.out]; exact hlt) (by rw [← HML.out]; omega) HA.out (fun _ => by rw [← HYY.out, ← HRr.out]; have := HR0.out; omega))
         rw [if_pos ⟨by rw [← HML.out]; exact hpm, by rw [← HYY.out, ← HRr.out]; exact HR00.out⟩] at HPUT
         have HPD := Lib.hid (show p ≤ d by omega)
         have hdp : ¬ d = p := by omega
         clear hpm hml2
         go_wp2_with (first
          | (at_builtin; go_loud (refine wpList_append_cs _ rfl _ _ rfl w.heap.size _ [] (M.drop p) _ _ _ rfl rfl OA.out CR.out HDL.out (fun e => by cases e) (by simp only [List.length_nil]; omega) HWA.out ?_; intro v9 w9 hown9 hg9 hat9; have HO9 := Lib.hid hown9; have B9 := Lib.hid (BA.out.grown hg9 BA.out.size (fun q hq => by have h1 := ST3.out.size; cases hq; exact h1)); clear hg9 hat9; obtain ⟨A9, c9, hv9, hcs9, hna9, -⟩ := hown9.cs (fun u hu => CUM.out _ B9.out u (List.mem_of_mem_drop hu)); rw [List.nil_append] at hcs9; rw [List.nil_append, HDL.out] at hv9; subst hv9; have hc9 := hcs9.cap; rw [HDL.out] at hc9; obtain ⟨g9, o9, hA9, -, -⟩ := hcs9.at_ (by rw [HDL.out]; omega); subst hA9; have CS9 := Lib.hid hcs9; have NA9 := Lib.hid hna9; clear hown9 hcs9 hna9)))
         ·
          rename_i hc1
          have HR9 := Lib.hid (show Cs w9 (some ⟨g9, o9, none⟩) 0 ((M.drop p).drop 1) by
           rw [List.drop_eq_nil_of_le (by rw [HDL.out]; omega)]
           exact cs_none _ _ (by simp [maxLen]))
          have HC1 := Lib.hid hc1
          clear hc1
          have HRL := Lib.hid (show ((M.drop p).drop 1).length = m - p - 1 by rw [List.length_drop, HDL.out])
          have HRN := Lib.hid (show (some ⟨g9, o9, none⟩ : Option Addr) = none → 0 = 0 from fun e => by cases e)
          refine wp_region_noPanic ?_
          refine wp_region_held (S := fun w' => w'.cell? ⟨b, off + i * 5, none⟩ = some (.bool x.sx) ∧ w'.cell? ⟨b, off + i * 5 + 1, none⟩ = some (.slice x.ax x.xs.length x.cx) ∧ w'.cell? ⟨b, off + i * 5 + 2, none⟩ = some (.bool x.sy) ∧ w'.cell? ⟨b, off + i * 5 + 3, none⟩ = some (.slice x.ay x.ys.length x.cy) ∧ w'.cell? ⟨b, off + i * 5 + 4, none⟩ = some (.int .u8 x.st)) (by kernel_rfl) ?_
          obtain ⟨W0, hW0⟩ : ∃ W0 : World, W0 = (w9).drew := ⟨_, rfl⟩
          have B0 := Lib.hid (show Below wr.heap.size wr W0 by rw [hW0]; exact below_drewN B9.out 1)
          have R0 := Lib.hid (show Cs W0 (some ⟨g9, o9, none⟩) 0 ((M.drop p).drop 1) by rw [hW0]; exact (HR9.out).below (below_drewN (Below.refl _ _) 1))
          have hS0 := HCX2.out.below (B0.out.block b HBL2.out)
          change wpAnyH _ _ _ _ _ _ _ _ (w9).drew
          rw [← hW0]
          clear hW0
          refine wpAnyH_take (i := 0) (v := ?_) rfl (by kernel_rfl) (by kernel_rfl) (by kernel_rfl) (fun _ _ _ h => h) (Or.inl ⟨by rfl, ?_⟩) hS0 ?_
          rotate_left
          ·
           rintro w' ⟨s1_, s2_, s3_, s4_, s5_⟩
           go_simp
           first | done | with_reducible rfl | rfl | (rw [if_pos HPD.out])
          simp only [Act.put, LA]
          refine wpAnyH_take (i := 1) (v := ?_) rfl (by kernel_rfl) (by kernel_rfl) (by kernel_rfl) (fun _ _ _ h => h) (Or.inl ⟨by rfl, ?_⟩) hS0 ?_
          rotate_left
          ·
           rintro w' ⟨s1_, s2_, s3_, s4_, s5_⟩
           go_simp
           first | done | with_reducible rfl | rfl | (rw [if_pos HPD.out])
          simp only [Act.put, LA]
          refine wpAnyH_take (i := 2) (v := ?_) rfl (by kernel_rfl) (by kernel_rfl) (by kernel_rfl) (fun _ _ _ h => h) (Or.inl ⟨by rfl, ?_⟩) hS0 ?_
          rotate_left
          ·
           rintro w' ⟨s1_, s2_, s3_, s4_, s5_⟩
           go_simp
           first | done | with_reducible rfl | rfl | (rw [if_pos HPD.out])
          simp only [Act.put, LA]
          refine wpAnyH_take (i := 3) (v := ?_) rfl (by kernel_rfl) (by kernel_rfl) (by kernel_rfl) (fun _ _ _ h => h) (Or.inl ⟨by rfl, ?_⟩) hS0 ?_
          rotate_left
          ·
           rintro w' ⟨s1_, s2_, s3_, s4_, s5_⟩
           go_simp
           first | done | with_reducible rfl | rfl | (rw [if_pos HPD.out])
          simp only [Act.put, LA]
          refine wpAnyH_take (i := 4) (v := ?_) rfl (by kernel_rfl) (by kernel_rfl) (by kernel_rfl) (fun _ _ _ h => h) (Or.inl ⟨by rfl, ?_⟩) hS0 ?_
          rotate_left
          ·
           rintro w' ⟨s1_, s2_, s3_, s4_, s5_⟩
           go_simp
           first | done | with_reducible rfl | rfl | (rw [if_pos HPD.out])
          simp only [Act.put, LA]
          refine wpAnyH_take (i := 5) (v := ?_) rfl (by kernel_rfl) (by kernel_rfl) (by kernel_rfl) (fun _ _ _ h => h) (Or.inl ⟨by rfl, ?_⟩) hS0 ?_
          rotate_left
          ·
           rintro w' ⟨s1_, s2_, s3_, s4_, s5_⟩
           go_simp
           first | done | with_reducible rfl | rfl | (rw [if_pos HPD.out])
          simp only [Act.put, LA]
          refine wpAnyH_take (i := 6) (v := ?_) rfl (by kernel_rfl) (by kernel_rfl) (by kernel_rfl) (fun _ _ _ h => h) (Or.inl ⟨by rfl, ?_⟩) hS0 ?_
          rotate_left
          ·
           rintro w' ⟨s1_, s2_, s3_, s4_, s5_⟩
           go_simp
           first | done | with_reducible rfl | rfl | (rw [if_pos HPD.out])
          simp only [Act.put, LA]
          refine wpAnyH_take (i := 7) (v := ?_) rfl (by kernel_rfl) (by kernel_rfl) (by kernel_rfl) (fun _ _ _ h => h) (Or.inl ⟨by rfl, ?_⟩) hS0 ?_
          rotate_left
          ·
           rintro w' ⟨s1_, s2_, s3_, s4_, s5_⟩
           go_simp
           first | done | with_reducible rfl | rfl | (rw [if_pos HPD.out])
          simp only [Act.put, LA]
          refine wpAnyH_take (i := 10) (v := ?_) rfl (by kernel_rfl) (by kernel_rfl) (by kernel_rfl) (fun _ _ _ h => h) (Or.inl ⟨by rfl, ?_⟩) hS0 ?_
          rotate_left
          ·
           rintro w' ⟨s1_, s2_, s3_, s4_, s5_⟩
           go_simp
           first | done | with_reducible rfl | rfl | (rw [if_pos HPD.out])
          simp only [Act.put, LA]
          refine wpAnyH_ready (rs := [8]) (by kernel_rfl) (by simp) (AllReadyH.cons rfl (fun K hK => ?_) AllReadyH.nil)
          go_simp
          obtain ⟨g1, hg1⟩ : ∃ g, g = W0.heap.size := ⟨_, rfl⟩
          obtain ⟨W1, hW1⟩ : ∃ V : World, V = W0.alloc (.cells #[.bool x.sx, .slice x.ax x.xs.length x.cx, .bool x.sy, .slice x.ay x.ys.length x.cy, .int .u8 x.st] 47) := ⟨_, rfl⟩
          have B1 := Lib.hid (show Below wr.heap.size wr W1 by rw [hW1]; exact B0.out.alloc B0.out.size _)
          have R1 := Lib.hid (show Cs W1 (some ⟨g9, o9, none⟩) 0 ((M.drop p).drop 1) by rw [hW1]; exact R0.out.below ((Below.refl _ _).alloc (Nat.le_refl _) _))
          have X1 := Lib.hid (show ∀ j u, (cvcs [x])[j]? = some u → W1.cell? ((⟨g1, 0, none⟩ : Addr).add j) = some u by rw [hW1, hg1]; exact cell_box W0 x)
          rw [← hg1, ← hW1]
          clear hg1 hW1
          refine hK.out _ _ (HCX2.out.below (B1.out.block b HBL2.out)) (fun hS1 => ?_)
          clear hK K
          refine wpAnyH_ready (rs := [9]) (by kernel_rfl) (by simp) (AllReadyH.cons rfl (fun K hK => ?_) AllReadyH.nil)
          refine oper_append_cut (.tmp 61) (.tmp 66) rfl x (some ⟨g, og, none⟩) p d (M.take p) ⟨g1, 0, none⟩ 1 rfl rfl HTP.out ((((HCS.out.below HBB.out)).below B1.out).cut p) (fun e => by cases e) X1.out (by omega) ?_
          intro v2 W2 ho hgw
          simp only [Act.put, LA]
          have B2 := Lib.hid (B1.out.grown hgw B1.out.size (fun q hq => by cases hq))
          have R2 := Lib.hid (R1.out.below ((Below.refl _ _).grown hgw (Nat.le_refl _) (fun q hq => by cases hq)))
          have O2 := Lib.hid (OwnC.mono ho (show w.heap.size ≤ W1.heap.size from Nat.le_trans HB.out.size (Nat.le_trans HBB.out.size B1.out.size)))
          have L2 := Lib.hid (show ∀ q, v2.ownBlock = some q → wr.heap.size ≤ q from fun q hq => Nat.le_trans B1.out.size (ho.lt q hq).1)
          refine hK.out _ _ (HCX2.out.below (B2.out.block b HBL2.out)) (fun hS2 => ?_)
          clear hK K ho hgw
          refine wpAnyH_ready (rs := [11]) (by kernel_rfl) (by simp) (AllReadyH.cons rfl (fun K hK => ?_) AllReadyH.nil)
          refine oper_append_cs (.tmp 67) (.tmp 68) rfl w.heap.size v2 (M.take p ++ [x]) ((M.drop p).drop 1) (some ⟨g9, o9, none⟩) (m - p - 1) (0) rfl rfl O2.out R2.out HRL.out HRN.out (by rw [List.length_append, HTP.out, List.length_singleton]; omega) (Nat.le_trans HB.out.size (Nat.le_trans HBB.out.size B2.out.size)) ?_
          intro v3 W3 ho hgw hat
          simp only [Act.put, LA]
          have B3 := Lib.hid (B2.out.grown hgw B2.out.size (fun q hq => L2.out q hq))
          have O3 := Lib.hid ho
          refine hK.out _ _ (HCX2.out.below (B3.out.block b HBL2.out)) (fun hS3 => ?_)
          clear hK K ho hgw hat
          refine wpAnyH_ready (rs := [12]) (by kernel_rfl) (by simp) (AllReadyH.cons rfl (fun K hK => ?_) AllReadyH.nil)
          go_simp
          refine hK.out _ _ (HCX2.out.below (B3.out.block b HBL2.out)) (fun hS4 => ?_)
          clear hK K
          refine wpAnyH_done (by kernel_rfl) ?_ _
          refine NoPanic.normal ?_
          go_wp2_with fail
          go_roundw
          case rel =>
           refine ⟨i + 1, by omega, by go_num, ?_, HB.out.trans ((HBB.out.trans (B3.out.mono HBB.out.size)).mono HB.out.size)⟩
           rw [HPUT.out]
           exact O3.out
          case measure => simp [intOf]; omega
         ·
          have HR9 := Lib.hid (show Cs w9 (some ⟨g9, o9 + 5, none⟩) (c9 - 1) ((M.drop p).drop 1) from CS9.out.rest (k := 1) (by rw [HDL.out]; have := HPM.out; omega))
          have HRL := Lib.hid (show ((M.drop p).drop 1).length = m - p - 1 by rw [List.length_drop, HDL.out])
          have HRN := Lib.hid (show (some ⟨g9, o9 + 5, none⟩ : Option Addr) = none → c9 - 1 = 0 from fun e => by cases e)
          refine wp_region_noPanic ?_
          refine wp_region_held (S := fun w' => w'.cell? ⟨b, off + i * 5, none⟩ = some (.bool x.sx) ∧ w'.cell? ⟨b, off + i * 5 + 1, none⟩ = some (.slice x.ax x.xs.length x.cx) ∧ w'.cell? ⟨b, off + i * 5 + 2, none⟩ = some (.bool x.sy) ∧ w'.cell? ⟨b, off + i * 5 + 3, none⟩ = some (.slice x.ay x.ys.length x.cy) ∧ w'.cell? ⟨b, off + i * 5 + 4, none⟩ = some (.int .u8 x.st)) (by kernel_rfl) ?_
          obtain ⟨W0, hW0⟩ : ∃ W0 : World, W0 = (w9).drew := ⟨_, rfl⟩
          have B0 := Lib.hid (show Below wr.heap.size wr W0 by rw [hW0]; exact below_drewN B9.out 1)
          have R0 := Lib.hid (show Cs W0 (some ⟨g9, o9 + 5, none⟩) (c9 - 1) ((M.drop p).drop 1) by rw [hW0]; exact (HR9.out).below (below_drewN (Below.refl _ _) 1))
          have hS0 := HCX2.out.below (B0.out.block b HBL2.out)
          change wpAnyH _ _ _ _ _ _ _ _ (w9).drew
          rw [← hW0]
          clear hW0
          refine wpAnyH_take (i := 0) (v := ?_) rfl (by kernel_rfl) (by kernel_rfl) (by kernel_rfl) (fun _ _ _ h => h) (Or.inl ⟨by rfl, ?_⟩) hS0 ?_
          rotate_left
          ·
           rintro w' ⟨s1_, s2_, s3_, s4_, s5_⟩
           go_simp
           first | done | with_reducible rfl | rfl | (rw [if_pos HPD.out])
          simp only [Act.put, LA]
          refine wpAnyH_take (i := 1) (v := ?_) rfl (by kernel_rfl) (by kernel_rfl) (by kernel_rfl) (fun _ _ _ h => h) (Or.inl ⟨by rfl, ?_⟩) hS0 ?_
          rotate_left
          ·
           rintro w' ⟨s1_, s2_, s3_, s4_, s5_⟩
           go_simp
           first | done | with_reducible rfl | rfl | (rw [if_pos HPD.out])
          simp only [Act.put, LA]
          refine wpAnyH_take (i := 2) (v := ?_) rfl (by kernel_rfl) (by kernel_rfl) (by kernel_rfl) (fun _ _ _ h => h) (Or.inl ⟨by rfl, ?_⟩) hS0 ?_
          rotate_left
          ·
           rintro w' ⟨s1_, s2_, s3_, s4_, s5_⟩
           go_simp
           first | done | with_reducible rfl | rfl | (rw [if_pos HPD.out])
          simp only [Act.put, LA]
          refine wpAnyH_take (i := 3) (v := ?_) rfl (by kernel_rfl) (by kernel_rfl) (by kernel_rfl) (fun _ _ _ h => h) (Or.inl ⟨by rfl, ?_⟩) hS0 ?_
          rotate_left
          ·
           rintro w' ⟨s1_, s2_, s3_, s4_, s5_⟩
           go_simp
           first | done | with_reducible rfl | rfl | (rw [if_pos HPD.out])
          simp only [Act.put, LA]
          refine wpAnyH_take (i := 4) (v := ?_) rfl (by kernel_rfl) (by kernel_rfl) (by kernel_rfl) (fun _ _ _ h => h) (Or.inl ⟨by rfl, ?_⟩) hS0 ?_
          rotate_left
          ·
           rintro w' ⟨s1_, s2_, s3_, s4_, s5_⟩
           go_simp
           first | done | with_reducible rfl | rfl | (rw [if_pos HPD.out])
          simp only [Act.put, LA]
          refine wpAnyH_take (i := 5) (v := ?_) rfl (by kernel_rfl) (by kernel_rfl) (by kernel_rfl) (fun _ _ _ h => h) (Or.inl ⟨by rfl, ?_⟩) hS0 ?_
          rotate_left
          ·
           rintro w' ⟨s1_, s2_, s3_, s4_, s5_⟩
           go_simp
           first | done | with_reducible rfl | rfl | (rw [if_pos HPD.out])
          simp only [Act.put, LA]
          refine wpAnyH_take (i := 6) (v := ?_) rfl (by kernel_rfl) (by kernel_rfl) (by kernel_rfl) (fun _ _ _ h => h) (Or.inl ⟨by rfl, ?_⟩) hS0 ?_
          rotate_left
          ·
           rintro w' ⟨s1_, s2_, s3_, s4_, s5_⟩
           go_simp
           first | done | with_reducible rfl | rfl | (rw [if_pos HPD.out])
          simp only [Act.put, LA]
          refine wpAnyH_take (i := 7) (v := ?_) rfl (by kernel_rfl) (by kernel_rfl) (by kernel_rfl) (fun _ _ _ h => h) (Or.inl ⟨by rfl, ?_⟩) hS0 ?_
          rotate_left
          ·
           rintro w' ⟨s1_, s2_, s3_, s4_, s5_⟩
           go_simp
           first | done | with_reducible rfl | rfl | (rw [if_pos HPD.out])
          simp only [Act.put, LA]
          refine wpAnyH_take (i := 10) (v := ?_) rfl (by kernel_rfl) (by kernel_rfl) (by kernel_rfl) (fun _ _ _ h => h) (Or.inl ⟨by rfl, ?_⟩) hS0 ?_
          rotate_left
          ·
           rintro w' ⟨s1_, s2_, s3_, s4_, s5_⟩
           go_simp
           first | done | with_reducible rfl | rfl | (rw [if_pos HPD.out])
          simp only [Act.put, LA]
          refine wpAnyH_ready (rs := [8]) (by kernel_rfl) (by simp) (AllReadyH.cons rfl (fun K hK => ?_) AllReadyH.nil)
          go_simp
          obtain ⟨g1, hg1⟩ : ∃ g, g = W0.heap.size := ⟨_, rfl⟩
          obtain ⟨W1, hW1⟩ : ∃ V : World, V = W0.alloc (.cells #[.bool x.sx, .slice x.ax x.xs.length x.cx, .bool x.sy, .slice x.ay x.ys.length x.cy, .int .u8 x.st] 47) := ⟨_, rfl⟩
          have B1 := Lib.hid (show Below wr.heap.size wr W1 by rw [hW1]; exact B0.out.alloc B0.out.size _)
          have R1 := Lib.hid (show Cs W1 (some ⟨g9, o9 + 5, none⟩) (c9 - 1) ((M.drop p).drop 1) by rw [hW1]; exact R0.out.below ((Below.refl _ _).alloc (Nat.le_refl _) _))
          have X1 := Lib.hid (show ∀ j u, (cvcs [x])[j]? = some u → W1.cell? ((⟨g1, 0, none⟩ : Addr).add j) = some u by rw [hW1, hg1]; exact cell_box W0 x)
          rw [← hg1, ← hW1]
          clear hg1 hW1
          refine hK.out _ _ (HCX2.out.below (B1.out.block b HBL2.out)) (fun hS1 => ?_)
          clear hK K
          refine wpAnyH_ready (rs := [9]) (by kernel_rfl) (by simp) (AllReadyH.cons rfl (fun K hK => ?_) AllReadyH.nil)
          refine oper_append_cut (.tmp 61) (.tmp 66) rfl x (some ⟨g, og, none⟩) p d (M.take p) ⟨g1, 0, none⟩ 1 rfl rfl HTP.out ((((HCS.out.below HBB.out)).below B1.out).cut p) (fun e => by cases e) X1.out (by omega) ?_
          intro v2 W2 ho hgw
          simp only [Act.put, LA]
          have B2 := Lib.hid (B1.out.grown hgw B1.out.size (fun q hq => by cases hq))
          have R2 := Lib.hid (R1.out.below ((Below.refl _ _).grown hgw (Nat.le_refl _) (fun q hq => by cases hq)))
          have O2 := Lib.hid (OwnC.mono ho (show w.heap.size ≤ W1.heap.size from Nat.le_trans HB.out.size (Nat.le_trans HBB.out.size B1.out.size)))
          have L2 := Lib.hid (show ∀ q, v2.ownBlock = some q → wr.heap.size ≤ q from fun q hq => Nat.le_trans B1.out.size (ho.lt q hq).1)
          refine hK.out _ _ (HCX2.out.below (B2.out.block b HBL2.out)) (fun hS2 => ?_)
          clear hK K ho hgw
          refine wpAnyH_ready (rs := [11]) (by kernel_rfl) (by simp) (AllReadyH.cons rfl (fun K hK => ?_) AllReadyH.nil)
          refine oper_append_cs (.tmp 67) (.tmp 68) rfl w.heap.size v2 (M.take p ++ [x]) ((M.drop p).drop 1) (some ⟨g9, o9 + 5, none⟩) (m - p - 1) ((c9 - 1)) rfl rfl O2.out R2.out HRL.out HRN.out (by rw [List.length_append, HTP.out, List.length_singleton]; omega) (Nat.le_trans HB.out.size (Nat.le_trans HBB.out.size B2.out.size)) ?_
          intro v3 W3 ho hgw hat
          simp only [Act.put, LA]
          have B3 := Lib.hid (B2.out.grown hgw B2.out.size (fun q hq => L2.out q hq))
          have O3 := Lib.hid ho
          refine hK.out _ _ (HCX2.out.below (B3.out.block b HBL2.out)) (fun hS3 => ?_)
          clear hK K ho hgw hat
          refine wpAnyH_ready (rs := [12]) (by kernel_rfl) (by simp) (AllReadyH.cons rfl (fun K hK => ?_) AllReadyH.nil)
          go_simp
          refine hK.out _ _ (HCX2.out.below (B3.out.block b HBL2.out)) (fun hS4 => ?_)
          clear hK K
          refine wpAnyH_done (by kernel_rfl) ?_ _
          refine NoPanic.normal ?_
          go_wp2_with fail
          go_roundw
          case rel =>
           refine ⟨i + 1, by omega, by go_num, ?_, HB.out.trans ((HBB.out.trans (B3.out.mono HBB.out.size)).mono HB.out.size)⟩
           rw [HPUT.out]
           exact O3.out
          case measure => simp [intOf]; omega
       ·
        have HR00 := Lib.hid hr00
        have t4 : (r == 0) = false := beq_eq_false_iff_ne.2 hr00
        clear hr00
        go_wp2_with fail
        have st : Below wr.heap.size wr w2.drew := below_drewN (ST2.out) 1
        have sy := HCY.out.below ((ST2.out : Below wr.heap.size wr w2).block g HGL.out.1)
        have sx := HCX2.out.below ((ST2.out : Below wr.heap.size wr w2).block b HGL.out.2)
        obtain ⟨e1, e2, e3, e4, e5⟩ := sy
        obtain ⟨f1, f2, f3, f4, f5⟩ := sx
        go_region_held3 (fun w' => w'.cell? ⟨g, og + p * 5, none⟩ = some (.bool y.sx) ∧ w'.cell? ⟨g, og + p * 5 + 1, none⟩ = some (.slice y.ax y.xs.length y.cx) ∧ w'.cell? ⟨g, og + p * 5 + 2, none⟩ = some (.bool y.sy) ∧ w'.cell? ⟨g, og + p * 5 + 3, none⟩ = some (.slice y.ay y.ys.length y.cy) ∧ w'.cell? ⟨g, og + p * 5 + 4, none⟩ = some (.int .u8 y.st) ∧ w'.cell? ⟨b, off + i * 5, none⟩ = some (.bool x.sx) ∧ w'.cell? ⟨b, off + i * 5 + 1, none⟩ = some (.slice x.ax x.xs.length x.cx) ∧ w'.cell? ⟨b, off + i * 5 + 2, none⟩ = some (.bool x.sy) ∧ w'.cell? ⟨b, off + i * 5 + 3, none⟩ = some (.slice x.ay x.ys.length x.cy) ∧ w'.cell? ⟨b, off + i * 5 + 4, none⟩ = some (.int .u8 x.st))
         (first | go_keep | exact ⟨e1, e2, e3, e4, e5, f1, f2, f3, f4, f5⟩)
         (first | (go_at_call 51; refine (order_any y x _ (HYU.out.below st) (HUX2.out.below st) HLY.out.1 HLY.out.2 HLX.out.1 HLX.out.2).mono ?_; rintro e w3 ⟨rfl, b2⟩; rw [← HRr.out]; have st2 := st.trans (b2.mono st.size); clear e1 e2 e3 e4 e5 f1 f2 f3 f4 f5; obtain ⟨e1, e2, e3, e4, e5⟩ := HCY.out.below (st2.block g HGL.out.1); obtain ⟨f1, f2, f3, f4, f5⟩ := HCX2.out.below (st2.block b HGL.out.2)))
        all_goals
         have ST3 := Lib.hid st2
         clear st2 st b2 e1 e2 e3 e4 e5 f1 f2 f3 f4 f5
         have hpm := HPM.out
         have hml2 := HML.out
         have CUM := Lib.hid (show ∀ W', Below wr.heap.size wr W' → ∀ u ∈ M, CvU W' u from fun W' q u hu => ((HCU.out u (HIN.out u hu)).below HBB.out).below q)
         have BA := Lib.hid (show Below wr.heap.size wr (w3.alloc (.cells #[] 47)) from ST3.out.alloc ST3.out.size _)
         have HWA := Lib.hid (show w.heap.size ≤ (w3.alloc (.cells #[] 47)).heap.size from Nat.le_trans HB.out.size (Nat.le_trans HBB.out.size BA.out.size))
         have OA := Lib.hid (ownC_start w3 (base := w.heap.size) (Nat.le_trans HB.out.size (Nat.le_trans HBB.out.size ST3.out.size)))
         have CR := Lib.hid ((((HCS.out.below HBB.out).below BA.out)).rest (k := p) (by rw [← HML.out]; omega))
         have HDL := Lib.hid (show (M.drop p).length = m - p by rw [List.length_drop, ← HML.out])
         have HTP := Lib.hid (show (M.take p).length = p by rw [List.length_take, ← HML.out]; omega)
         have HBL2 := Lib.hid HGL.out.2
         have HPUT := Lib.hid (put_in HM.out HXX.out (by rw [HN.out]; exact hlt) (by rw [← HML.out]; omega) HA.out (fun _ => by rw [← HYY.out, ← HRr.out]; have := HR0.out; omega))
         rw [if_neg (fun e => HR00.out (by rw [HRr.out, HYY.out]; exact e.2)), List.drop_zero] at HPUT
         have HPD := Lib.hid (show p ≤ d by omega)
         have hdp : ¬ d = p := by omega
         clear hpm hml2
         go_wp2_with (first
          | (at_builtin; go_loud (refine wpList_append_cs _ rfl _ _ rfl w.heap.size _ [] (M.drop p) _ _ _ rfl rfl OA.out CR.out HDL.out (fun e => by cases e) (by simp only [List.length_nil]; omega) HWA.out ?_; intro v9 w9 hown9 hg9 hat9; have HO9 := Lib.hid hown9; have B9 := Lib.hid (BA.out.grown hg9 BA.out.size (fun q hq => by have h1 := ST3.out.size; cases hq; exact h1)); clear hg9 hat9; obtain ⟨A9, c9, hv9, hcs9, hna9, -⟩ := hown9.cs (fun u hu => CUM.out _ B9.out u (List.mem_of_mem_drop hu)); rw [List.nil_append] at hcs9; rw [List.nil_append, HDL.out] at hv9; subst hv9; have hc9 := hcs9.cap; rw [HDL.out] at hc9; have CS9 := Lib.hid hcs9; have NA9 := Lib.hid hna9; clear hown9 hcs9 hna9)))
         have HRL := Lib.hid (show (M.drop p).length = m - p by exact HDL.out)
         have HRN := Lib.hid (show (A9 : Option Addr) = none → c9 = 0 from NA9.out)
         refine wp_region_noPanic ?_
         refine wp_region_held (S := fun w' => w'.cell? ⟨b, off + i * 5, none⟩ = some (.bool x.sx) ∧ w'.cell? ⟨b, off + i * 5 + 1, none⟩ = some (.slice x.ax x.xs.length x.cx) ∧ w'.cell? ⟨b, off + i * 5 + 2, none⟩ = some (.bool x.sy) ∧ w'.cell? ⟨b, off + i * 5 + 3, none⟩ = some (.slice x.ay x.ys.length x.cy) ∧ w'.cell? ⟨b, off + i * 5 + 4, none⟩ = some (.int .u8 x.st)) (by kernel_rfl) ?_
         obtain ⟨W0, hW0⟩ : ∃ W0 : World, W0 = (w9).drew := ⟨_, rfl⟩
         have B0 := Lib.hid (show Below wr.heap.size wr W0 by rw [hW0]; exact below_drewN B9.out 1)
         have R0 := Lib.hid (show Cs W0 A9 c9 (M.drop p) by rw [hW0]; exact (CS9.out).below (below_drewN (Below.refl _ _) 1))
         have hS0 := HCX2.out.below (B0.out.block b HBL2.out)
         change wpAnyH _ _ _ _ _ _ _ _ (w9).drew
         rw [← hW0]
         clear hW0
         refine wpAnyH_take (i := 0) (v := ?_) rfl (by kernel_rfl) (by kernel_rfl) (by kernel_rfl) (fun _ _ _ h => h) (Or.inl ⟨by rfl, ?_⟩) hS0 ?_
         rotate_left
         ·
          rintro w' ⟨s1_, s2_, s3_, s4_, s5_⟩
          go_simp
          first | done | with_reducible rfl | rfl | (rw [if_pos HPD.out])
         simp only [Act.put, LA]
         refine wpAnyH_take (i := 1) (v := ?_) rfl (by kernel_rfl) (by kernel_rfl) (by kernel_rfl) (fun _ _ _ h => h) (Or.inl ⟨by rfl, ?_⟩) hS0 ?_
         rotate_left
         ·
          rintro w' ⟨s1_, s2_, s3_, s4_, s5_⟩
          go_simp
          first | done | with_reducible rfl | rfl | (rw [if_pos HPD.out])
         simp only [Act.put, LA]
         refine wpAnyH_take (i := 2) (v := ?_) rfl (by kernel_rfl) (by kernel_rfl) (by kernel_rfl) (fun _ _ _ h => h) (Or.inl ⟨by rfl, ?_⟩) hS0 ?_
         rotate_left
         ·
          rintro w' ⟨s1_, s2_, s3_, s4_, s5_⟩
          go_simp
          first | done | with_reducible rfl | rfl | (rw [if_pos HPD.out])
         simp only [Act.put, LA]
         refine wpAnyH_take (i := 3) (v := ?_) rfl (by kernel_rfl) (by kernel_rfl) (by kernel_rfl) (fun _ _ _ h => h) (Or.inl ⟨by rfl, ?_⟩) hS0 ?_
         rotate_left
         ·
          rintro w' ⟨s1_, s2_, s3_, s4_, s5_⟩
          go_simp
          first | done | with_reducible rfl | rfl | (rw [if_pos HPD.out])
         simp only [Act.put, LA]
         refine wpAnyH_take (i := 4) (v := ?_) rfl (by kernel_rfl) (by kernel_rfl) (by kernel_rfl) (fun _ _ _ h => h) (Or.inl ⟨by rfl, ?_⟩) hS0 ?_
         rotate_left
         ·
          rintro w' ⟨s1_, s2_, s3_, s4_, s5_⟩
          go_simp
          first | done | with_reducible rfl | rfl | (rw [if_pos HPD.out])
         simp only [Act.put, LA]
         refine wpAnyH_take (i := 5) (v := ?_) rfl (by kernel_rfl) (by kernel_rfl) (by kernel_rfl) (fun _ _ _ h => h) (Or.inl ⟨by rfl, ?_⟩) hS0 ?_
         rotate_left
         ·
          rintro w' ⟨s1_, s2_, s3_, s4_, s5_⟩
          go_simp
          first | done | with_reducible rfl | rfl | (rw [if_pos HPD.out])
         simp only [Act.put, LA]
         refine wpAnyH_take (i := 6) (v := ?_) rfl (by kernel_rfl) (by kernel_rfl) (by kernel_rfl) (fun _ _ _ h => h) (Or.inl ⟨by rfl, ?_⟩) hS0 ?_
         rotate_left
         ·
          rintro w' ⟨s1_, s2_, s3_, s4_, s5_⟩
          go_simp
          first | done | with_reducible rfl | rfl | (rw [if_pos HPD.out])
         simp only [Act.put, LA]
         refine wpAnyH_take (i := 7) (v := ?_) rfl (by kernel_rfl) (by kernel_rfl) (by kernel_rfl) (fun _ _ _ h => h) (Or.inl ⟨by rfl, ?_⟩) hS0 ?_
         rotate_left
         ·
          rintro w' ⟨s1_, s2_, s3_, s4_, s5_⟩
          go_simp
          first | done | with_reducible rfl | rfl | (rw [if_pos HPD.out])
         simp only [Act.put, LA]
         refine wpAnyH_take (i := 10) (v := ?_) rfl (by kernel_rfl) (by kernel_rfl) (by kernel_rfl) (fun _ _ _ h => h) (Or.inl ⟨by rfl, ?_⟩) hS0 ?_
         rotate_left
         ·
          rintro w' ⟨s1_, s2_, s3_, s4_, s5_⟩
          go_simp
          first | done | with_reducible rfl | rfl | (rw [if_pos HPD.out])
         simp only [Act.put, LA]
         refine wpAnyH_ready (rs := [8]) (by kernel_rfl) (by simp) (AllReadyH.cons rfl (fun K hK => ?_) AllReadyH.nil)
         go_simp
         obtain ⟨g1, hg1⟩ : ∃ g, g = W0.heap.size := ⟨_, rfl⟩
         obtain ⟨W1, hW1⟩ : ∃ V : World, V = W0.alloc (.cells #[.bool x.sx, .slice x.ax x.xs.length x.cx, .bool x.sy, .slice x.ay x.ys.length x.cy, .int .u8 x.st] 47) := ⟨_, rfl⟩
         have B1 := Lib.hid (show Below wr.heap.size wr W1 by rw [hW1]; exact B0.out.alloc B0.out.size _)
         have R1 := Lib.hid (show Cs W1 A9 c9 (M.drop p) by rw [hW1]; exact R0.out.below ((Below.refl _ _).alloc (Nat.le_refl _) _))
         have X1 := Lib.hid (show ∀ j u, (cvcs [x])[j]? = some u → W1.cell? ((⟨g1, 0, none⟩ : Addr).add j) = some u by rw [hW1, hg1]; exact cell_box W0 x)
         rw [← hg1, ← hW1]
         clear hg1 hW1
         refine hK.out _ _ (HCX2.out.below (B1.out.block b HBL2.out)) (fun hS1 => ?_)
         clear hK K
         refine wpAnyH_ready (rs := [9]) (by kernel_rfl) (by simp) (AllReadyH.cons rfl (fun K hK => ?_) AllReadyH.nil)
         refine oper_append_cut (.tmp 61) (.tmp 66) rfl x (some ⟨g, og, none⟩) p d (M.take p) ⟨g1, 0, none⟩ 1 rfl rfl HTP.out ((((HCS.out.below HBB.out)).below B1.out).cut p) (fun e => by cases e) X1.out (by omega) ?_
         intro v2 W2 ho hgw
         simp only [Act.put, LA]
         have B2 := Lib.hid (B1.out.grown hgw B1.out.size (fun q hq => by cases hq))
         have R2 := Lib.hid (R1.out.below ((Below.refl _ _).grown hgw (Nat.le_refl _) (fun q hq => by cases hq)))
         have O2 := Lib.hid (OwnC.mono ho (show w.heap.size ≤ W1.heap.size from Nat.le_trans HB.out.size (Nat.le_trans HBB.out.size B1.out.size)))
         have L2 := Lib.hid (show ∀ q, v2.ownBlock = some q → wr.heap.size ≤ q from fun q hq => Nat.le_trans B1.out.size (ho.lt q hq).1)
         refine hK.out _ _ (HCX2.out.below (B2.out.block b HBL2.out)) (fun hS2 => ?_)
         clear hK K ho hgw
         refine wpAnyH_ready (rs := [11]) (by kernel_rfl) (by simp) (AllReadyH.cons rfl (fun K hK => ?_) AllReadyH.nil)
         refine oper_append_cs (.tmp 67) (.tmp 68) rfl w.heap.size v2 (M.take p ++ [x]) (M.drop p) A9 (m - p) (c9) rfl rfl O2.out R2.out HRL.out HRN.out (by rw [List.length_append, HTP.out, List.length_singleton]; omega) (Nat.le_trans HB.out.size (Nat.le_trans HBB.out.size B2.out.size)) ?_
         intro v3 W3 ho hgw hat
         simp only [Act.put, LA]
         have B3 := Lib.hid (B2.out.grown hgw B2.out.size (fun q hq => L2.out q hq))
         have O3 := Lib.hid ho
         refine hK.out _ _ (HCX2.out.below (B3.out.block b HBL2.out)) (fun hS3 => ?_)
         clear hK K ho hgw hat
         refine wpAnyH_ready (rs := [12]) (by kernel_rfl) (by simp) (AllReadyH.cons rfl (fun K hK => ?_) AllReadyH.nil)
         go_simp
         refine hK.out _ _ (HCX2.out.below (B3.out.block b HBL2.out)) (fun hS4 => ?_)
         clear hK K
         refine wpAnyH_done (by kernel_rfl) ?_ _
         refine NoPanic.normal ?_
         go_wp2_with fail
         go_roundw
         case rel =>
          refine ⟨i + 1, by omega, by go_num, ?_, HB.out.trans ((HBB.out.trans (B3.out.mono HBB.out.size)).mono HB.out.size)⟩
          rw [HPUT.out]
          exact O3.out
         case measure => simp [intOf]; omega
    ·
     obtain rfl : p = m := by omega
     have t2 : decide ((p : Int) < (p : Int)) = false := decide_eq_false (by omega)
     have HUX2 := Lib.hid (HUX.out.below HBB.out)
     have HBL2 := Lib.hid (Nat.lt_of_lt_of_le HBL.out HBB.out.size)
     have HCX2 := Lib.hid (HCX.out.below (HBB.out.block b HBL.out))
     have HTP := Lib.hid (show (M.take p).length = p by rw [List.length_take, ← HML.out]; omega)
     have HPUT := Lib.hid (put_in HM.out HXX.out (by rw [HN.out]; exact hlt) (by rw [← HML.out]; exact Nat.le_refl _) HA.out (fun h0 => absurd h0 (by rw [← HML.out]; exact Nat.lt_irrefl _)))
     rw [if_neg (fun e => absurd e.1 (by rw [← HML.out]; exact Nat.lt_irrefl _)), List.drop_zero, List.drop_eq_nil_of_le (by rw [← HML.out]; exact Nat.le_refl _)] at HPUT
     cases D with
     | none =>
      have hd0 := HD.out.1 rfl
      subst hd0
      have hp0 : p = 0 := by omega
      subst hp0
      have HPD := Lib.hid (Nat.le_refl 0)
      clear hpm
      go_wp2_with fail
      go_quiet (fail)
      have bq : Below wr.heap.size wr (wr.drewN nq) := below_drewN (Below.refl _ wr) _
      generalize wr.drewN nq = wq at bq ⊢
      have BQ := Lib.hid bq
      clear bq
      go_wp2_with fail
      go_quiet (fail)
      have bq := below_drewN BQ.out nq
      generalize wq.drewN nq = w3 at bq ⊢
      have ST3 := Lib.hid bq
      clear bq
      have BA := Lib.hid (show Below wr.heap.size wr (w3.alloc (.cells #[] 47)) from ST3.out.alloc ST3.out.size _)
      have HWA := Lib.hid (show w.heap.size ≤ (w3.alloc (.cells #[] 47)).heap.size from Nat.le_trans HB.out.size (Nat.le_trans HBB.out.size BA.out.size))
      have OA := Lib.hid (ownC_start w3 (base := w.heap.size) (Nat.le_trans HB.out.size (Nat.le_trans HBB.out.size ST3.out.size)))
      go_wp2_with fail
      have HR9 := Lib.hid (cs_none (w3.alloc (.cells #[] 47)) (some ⟨w3.heap.size, 0, none⟩) (c := 0) (by simp [maxLen]))
      have HRL := Lib.hid (show ([] : List Cv).length = 0 from rfl)
      have HRN := Lib.hid (show (some ⟨w3.heap.size, 0, none⟩ : Option Addr) = none → 0 = 0 from fun _ => rfl)
      refine wp_region_noPanic ?_
      refine wp_region_held (S := fun w' => w'.cell? ⟨b, off + i * 5, none⟩ = some (.bool x.sx) ∧ w'.cell? ⟨b, off + i * 5 + 1, none⟩ = some (.slice x.ax x.xs.length x.cx) ∧ w'.cell? ⟨b, off + i * 5 + 2, none⟩ = some (.bool x.sy) ∧ w'.cell? ⟨b, off + i * 5 + 3, none⟩ = some (.slice x.ay x.ys.length x.cy) ∧ w'.cell? ⟨b, off + i * 5 + 4, none⟩ = some (.int .u8 x.st)) (by kernel_rfl) ?_
      obtain ⟨W0, hW0⟩ : ∃ W0 : World, W0 = (w3.alloc (.cells #[] 47)).drew := ⟨_, rfl⟩
      have B0 := Lib.hid (show Below wr.heap.size wr W0 by rw [hW0]; exact below_drewN BA.out 1)
      have R0 := Lib.hid (show Cs W0 (some ⟨w3.heap.size, 0, none⟩) 0 [] by rw [hW0]; exact (HR9.out).below (below_drewN (Below.refl _ _) 1))
      have hS0 := HCX2.out.below (B0.out.block b HBL2.out)
      change wpAnyH _ _ _ _ _ _ _ _ (w3.alloc (.cells #[] 47)).drew
      rw [← hW0]
      clear hW0
      refine wpAnyH_take (i := 0) (v := ?_) rfl (by kernel_rfl) (by kernel_rfl) (by kernel_rfl) (fun _ _ _ h => h) (Or.inl ⟨by rfl, ?_⟩) hS0 ?_
      rotate_left
      ·
       rintro w' ⟨s1_, s2_, s3_, s4_, s5_⟩
       go_simp
       first | done | with_reducible rfl | rfl | (rw [if_pos HPD.out])
      simp only [Act.put, LA]
      refine wpAnyH_take (i := 1) (v := ?_) rfl (by kernel_rfl) (by kernel_rfl) (by kernel_rfl) (fun _ _ _ h => h) (Or.inl ⟨by rfl, ?_⟩) hS0 ?_
      rotate_left
      ·
       rintro w' ⟨s1_, s2_, s3_, s4_, s5_⟩
       go_simp
       first | done | with_reducible rfl | rfl | (rw [if_pos HPD.out])
      simp only [Act.put, LA]
      refine wpAnyH_take (i := 2) (v := ?_) rfl (by kernel_rfl) (by kernel_rfl) (by kernel_rfl) (fun _ _ _ h => h) (Or.inl ⟨by rfl, ?_⟩) hS0 ?_
      rotate_left
      ·
       rintro w' ⟨s1_, s2_, s3_, s4_, s5_⟩
       go_simp
       first | done | with_reducible rfl | rfl | (rw [if_pos HPD.out])
      simp only [Act.put, LA]
      refine wpAnyH_take (i := 3) (v := ?_) rfl (by kernel_rfl) (by kernel_rfl) (by kernel_rfl) (fun _ _ _ h => h) (Or.inl ⟨by rfl, ?_⟩) hS0 ?_
      rotate_left
      ·
       rintro w' ⟨s1_, s2_, s3_, s4_, s5_⟩
       go_simp
       first | done | with_reducible rfl | rfl | (rw [if_pos HPD.out])
      simp only [Act.put, LA]
      refine wpAnyH_take (i := 4) (v := ?_) rfl (by kernel_rfl) (by kernel_rfl) (by kernel_rfl) (fun _ _ _ h => h) (Or.inl ⟨by rfl, ?_⟩) hS0 ?_
      rotate_left
      ·
       rintro w' ⟨s1_, s2_, s3_, s4_, s5_⟩
       go_simp
       first | done | with_reducible rfl | rfl | (rw [if_pos HPD.out])
      simp only [Act.put, LA]
      refine wpAnyH_take (i := 5) (v := ?_) rfl (by kernel_rfl) (by kernel_rfl) (by kernel_rfl) (fun _ _ _ h => h) (Or.inl ⟨by rfl, ?_⟩) hS0 ?_
      rotate_left
      ·
       rintro w' ⟨s1_, s2_, s3_, s4_, s5_⟩
       go_simp
       first | done | with_reducible rfl | rfl | (rw [if_pos HPD.out])
      simp only [Act.put, LA]
      refine wpAnyH_take (i := 6) (v := ?_) rfl (by kernel_rfl) (by kernel_rfl) (by kernel_rfl) (fun _ _ _ h => h) (Or.inl ⟨by rfl, ?_⟩) hS0 ?_
      rotate_left
      ·
       rintro w' ⟨s1_, s2_, s3_, s4_, s5_⟩
       go_simp
       first | done | with_reducible rfl | rfl | (rw [if_pos HPD.out])
      simp only [Act.put, LA]
      refine wpAnyH_take (i := 7) (v := ?_) rfl (by kernel_rfl) (by kernel_rfl) (by kernel_rfl) (fun _ _ _ h => h) (Or.inl ⟨by rfl, ?_⟩) hS0 ?_
      rotate_left
      ·
       rintro w' ⟨s1_, s2_, s3_, s4_, s5_⟩
       go_simp
       first | done | with_reducible rfl | rfl | (rw [if_pos HPD.out])
      simp only [Act.put, LA]
      refine wpAnyH_take (i := 10) (v := ?_) rfl (by kernel_rfl) (by kernel_rfl) (by kernel_rfl) (fun _ _ _ h => h) (Or.inl ⟨by rfl, ?_⟩) hS0 ?_
      rotate_left
      ·
       rintro w' ⟨s1_, s2_, s3_, s4_, s5_⟩
       go_simp
       first | done | with_reducible rfl | rfl | (rw [if_pos HPD.out])
      simp only [Act.put, LA]
      refine wpAnyH_ready (rs := [8]) (by kernel_rfl) (by simp) (AllReadyH.cons rfl (fun K hK => ?_) AllReadyH.nil)
      go_simp
      obtain ⟨g1, hg1⟩ : ∃ g, g = W0.heap.size := ⟨_, rfl⟩
      obtain ⟨W1, hW1⟩ : ∃ V : World, V = W0.alloc (.cells #[.bool x.sx, .slice x.ax x.xs.length x.cx, .bool x.sy, .slice x.ay x.ys.length x.cy, .int .u8 x.st] 47) := ⟨_, rfl⟩
      have B1 := Lib.hid (show Below wr.heap.size wr W1 by rw [hW1]; exact B0.out.alloc B0.out.size _)
      have R1 := Lib.hid (show Cs W1 (some ⟨w3.heap.size, 0, none⟩) 0 [] by rw [hW1]; exact R0.out.below ((Below.refl _ _).alloc (Nat.le_refl _) _))
      have X1 := Lib.hid (show ∀ j u, (cvcs [x])[j]? = some u → W1.cell? ((⟨g1, 0, none⟩ : Addr).add j) = some u by rw [hW1, hg1]; exact cell_box W0 x)
      rw [← hg1, ← hW1]
      clear hg1 hW1
      refine hK.out _ _ (HCX2.out.below (B1.out.block b HBL2.out)) (fun hS1 => ?_)
      clear hK K
      refine wpAnyH_ready (rs := [9]) (by kernel_rfl) (by simp) (AllReadyH.cons rfl (fun K hK => ?_) AllReadyH.nil)
      refine oper_append_cut (.tmp 61) (.tmp 66) rfl x none 0 0 (M.take 0) ⟨g1, 0, none⟩ 1 rfl rfl HTP.out ((((HCS.out.below HBB.out)).below B1.out).cut 0) (fun _ => rfl) X1.out (by omega) ?_
      intro v2 W2 ho hgw
      simp only [Act.put, LA]
      have B2 := Lib.hid (B1.out.grown hgw B1.out.size (fun q hq => by cases hq))
      have R2 := Lib.hid (R1.out.below ((Below.refl _ _).grown hgw (Nat.le_refl _) (fun q hq => by cases hq)))
      have O2 := Lib.hid (OwnC.mono ho (show w.heap.size ≤ W1.heap.size from Nat.le_trans HB.out.size (Nat.le_trans HBB.out.size B1.out.size)))
      have L2 := Lib.hid (show ∀ q, v2.ownBlock = some q → wr.heap.size ≤ q from fun q hq => Nat.le_trans B1.out.size (ho.lt q hq).1)
      refine hK.out _ _ (HCX2.out.below (B2.out.block b HBL2.out)) (fun hS2 => ?_)
      clear hK K ho hgw
      refine wpAnyH_ready (rs := [11]) (by kernel_rfl) (by simp) (AllReadyH.cons rfl (fun K hK => ?_) AllReadyH.nil)
      refine oper_append_cs (.tmp 67) (.tmp 68) rfl w.heap.size v2 (M.take 0 ++ [x]) [] (some ⟨w3.heap.size, 0, none⟩) (0) (0) rfl rfl O2.out R2.out HRL.out HRN.out (by rw [List.length_append, HTP.out, List.length_singleton]; omega) (Nat.le_trans HB.out.size (Nat.le_trans HBB.out.size B2.out.size)) ?_
      intro v3 W3 ho hgw hat
      simp only [Act.put, LA]
      have B3 := Lib.hid (B2.out.grown hgw B2.out.size (fun q hq => L2.out q hq))
      have O3 := Lib.hid ho
      refine hK.out _ _ (HCX2.out.below (B3.out.block b HBL2.out)) (fun hS3 => ?_)
      clear hK K ho hgw hat
      refine wpAnyH_ready (rs := [12]) (by kernel_rfl) (by simp) (AllReadyH.cons rfl (fun K hK => ?_) AllReadyH.nil)
      go_simp
      refine hK.out _ _ (HCX2.out.below (B3.out.block b HBL2.out)) (fun hS4 => ?_)
      clear hK K
      refine wpAnyH_done (by kernel_rfl) ?_ _
      refine NoPanic.normal ?_
      go_wp2_with fail
      go_roundw
      case rel =>
       refine ⟨i + 1, by omega, by go_num, ?_, HB.out.trans ((HBB.out.trans (B3.out.mono HBB.out.size)).mono HB.out.size)⟩
       rw [HPUT.out]
       exact O3.out
      case measure => simp [intOf]; omega
     | some da =>
      obtain ⟨g, rfl⟩ := HSG.out da rfl
      have HPD := Lib.hid (show p ≤ d by omega)
      clear hpm
      by_cases hdp : d = p
      ·
       subst hdp
       go_wp2_with fail
       go_quiet (fail)
       have bq : Below wr.heap.size wr (wr.drewN nq) := below_drewN (Below.refl _ wr) _
       generalize wr.drewN nq = wq at bq ⊢
       have BQ := Lib.hid bq
       clear bq
       go_wp2_with fail
       go_quiet (fail)
       have bq := below_drewN BQ.out nq
       generalize wq.drewN nq = w3 at bq ⊢
       have ST3 := Lib.hid bq
       clear bq
       have BA := Lib.hid (show Below wr.heap.size wr (w3.alloc (.cells #[] 47)) from ST3.out.alloc ST3.out.size _)
       have HWA := Lib.hid (show w.heap.size ≤ (w3.alloc (.cells #[] 47)).heap.size from Nat.le_trans HB.out.size (Nat.le_trans HBB.out.size BA.out.size))
       have OA := Lib.hid (ownC_start w3 (base := w.heap.size) (Nat.le_trans HB.out.size (Nat.le_trans HBB.out.size ST3.out.size)))
       go_wp2_with (first
        | (at_builtin; go_loud (refine wpList_append_cs _ rfl _ _ rfl w.heap.size _ [] [] _ _ _ rfl rfl OA.out (cs_none _ _ (by simp only [maxLen]; omega)) (by simp) (fun e => by cases e) (by simp) HWA.out ?_; intro v9 w9 hown9 hg9 hat9; have B9 := Lib.hid (BA.out.grown hg9 BA.out.size (fun q hq => by have h1 := ST3.out.size; cases hq; exact h1)); clear hg9 hat9; obtain ⟨A9, c9, hv9, hcs9, hna9, -⟩ := hown9.cs (fun u hu => by cases hu); rw [List.nil_append] at hcs9; rw [List.nil_append, List.length_nil] at hv9; subst hv9; have hc9 := hcs9.cap; have CS9 := Lib.hid hcs9; have NA9 := Lib.hid hna9; clear hown9 hcs9 hna9)))
       have HRL := Lib.hid (show ([] : List Cv).length = 0 from rfl)
       have HRN := Lib.hid (show A9 = none → c9 = 0 from NA9.out)
       refine wp_region_noPanic ?_
       refine wp_region_held (S := fun w' => w'.cell? ⟨b, off + i * 5, none⟩ = some (.bool x.sx) ∧ w'.cell? ⟨b, off + i * 5 + 1, none⟩ = some (.slice x.ax x.xs.length x.cx) ∧ w'.cell? ⟨b, off + i * 5 + 2, none⟩ = some (.bool x.sy) ∧ w'.cell? ⟨b, off + i * 5 + 3, none⟩ = some (.slice x.ay x.ys.length x.cy) ∧ w'.cell? ⟨b, off + i * 5 + 4, none⟩ = some (.int .u8 x.st)) (by kernel_rfl) ?_
       obtain ⟨W0, hW0⟩ : ∃ W0 : World, W0 = (w9).drew := ⟨_, rfl⟩
       have B0 := Lib.hid (show Below wr.heap.size wr W0 by rw [hW0]; exact below_drewN B9.out 1)
       have R0 := Lib.hid (show Cs W0 A9 c9 [] by rw [hW0]; exact (CS9.out).below (below_drewN (Below.refl _ _) 1))
       have hS0 := HCX2.out.below (B0.out.block b HBL2.out)
       change wpAnyH _ _ _ _ _ _ _ _ (w9).drew
       rw [← hW0]
       clear hW0
       refine wpAnyH_take (i := 0) (v := ?_) rfl (by kernel_rfl) (by kernel_rfl) (by kernel_rfl) (fun _ _ _ h => h) (Or.inl ⟨by rfl, ?_⟩) hS0 ?_
       rotate_left
       ·
        rintro w' ⟨s1_, s2_, s3_, s4_, s5_⟩
        go_simp
        first | done | with_reducible rfl | rfl | (rw [if_pos HPD.out])
       simp only [Act.put, LA]
       refine wpAnyH_take (i := 1) (v := ?_) rfl (by kernel_rfl) (by kernel_rfl) (by kernel_rfl) (fun _ _ _ h => h) (Or.inl ⟨by rfl, ?_⟩) hS0 ?_
       rotate_left
       ·
        rintro w' ⟨s1_, s2_, s3_, s4_, s5_⟩
        go_simp
        first | done | with_reducible rfl | rfl | (rw [if_pos HPD.out])
       simp only [Act.put, LA]
       refine wpAnyH_take (i := 2) (v := ?_) rfl (by kernel_rfl) (by kernel_rfl) (by kernel_rfl) (fun _ _ _ h => h) (Or.inl ⟨by rfl, ?_⟩) hS0 ?_
       rotate_left
       ·
        rintro w' ⟨s1_, s2_, s3_, s4_, s5_⟩
        go_simp
        first | done | with_reducible rfl | rfl | (rw [if_pos HPD.out])
       simp only [Act.put, LA]
       refine wpAnyH_take (i := 3) (v := ?_) rfl (by kernel_rfl) (by kernel_rfl) (by kernel_rfl) (fun _ _ _ h => h) (Or.inl ⟨by rfl, ?_⟩) hS0 ?_
       rotate_left
       ·
        rintro w' ⟨s1_, s2_, s3_, s4_, s5_⟩
        go_simp
        first | done | with_reducible rfl | rfl | (rw [if_pos HPD.out])
       simp only [Act.put, LA]
       refine wpAnyH_take (i := 4) (v := ?_) rfl (by kernel_rfl) (by kernel_rfl) (by kernel_rfl) (fun _ _ _ h => h) (Or.inl ⟨by rfl, ?_⟩) hS0 ?_
       rotate_left
       ·
        rintro w' ⟨s1_, s2_, s3_, s4_, s5_⟩
        go_simp
        first | done | with_reducible rfl | rfl | (rw [if_pos HPD.out])
       simp only [Act.put, LA]
       refine wpAnyH_take (i := 5) (v := ?_) rfl (by kernel_rfl) (by kernel_rfl) (by kernel_rfl) (fun _ _ _ h => h) (Or.inl ⟨by rfl, ?_⟩) hS0 ?_
       rotate_left
       ·
        rintro w' ⟨s1_, s2_, s3_, s4_, s5_⟩
        go_simp
        first | done | with_reducible rfl | rfl | (rw [if_pos HPD.out])
       simp only [Act.put, LA]
       refine wpAnyH_take (i := 6) (v := ?_) rfl (by kernel_rfl) (by kernel_rfl) (by kernel_rfl) (fun _ _ _ h => h) (Or.inl ⟨by rfl, ?_⟩) hS0 ?_
       rotate_left
       ·
        rintro w' ⟨s1_, s2_, s3_, s4_, s5_⟩
        go_simp
        first | done | with_reducible rfl | rfl | (rw [if_pos HPD.out])
       simp only [Act.put, LA]
       refine wpAnyH_take (i := 7) (v := ?_) rfl (by kernel_rfl) (by kernel_rfl) (by kernel_rfl) (fun _ _ _ h => h) (Or.inl ⟨by rfl, ?_⟩) hS0 ?_
       rotate_left
       ·
        rintro w' ⟨s1_, s2_, s3_, s4_, s5_⟩
        go_simp
        first | done | with_reducible rfl | rfl | (rw [if_pos HPD.out])
       simp only [Act.put, LA]
       refine wpAnyH_take (i := 10) (v := ?_) rfl (by kernel_rfl) (by kernel_rfl) (by kernel_rfl) (fun _ _ _ h => h) (Or.inl ⟨by rfl, ?_⟩) hS0 ?_
       rotate_left
       ·
        rintro w' ⟨s1_, s2_, s3_, s4_, s5_⟩
        go_simp
        first | done | with_reducible rfl | rfl | (rw [if_pos HPD.out])
       simp only [Act.put, LA]
       refine wpAnyH_ready (rs := [8]) (by kernel_rfl) (by simp) (AllReadyH.cons rfl (fun K hK => ?_) AllReadyH.nil)
       go_simp
       obtain ⟨g1, hg1⟩ : ∃ g, g = W0.heap.size := ⟨_, rfl⟩
       obtain ⟨W1, hW1⟩ : ∃ V : World, V = W0.alloc (.cells #[.bool x.sx, .slice x.ax x.xs.length x.cx, .bool x.sy, .slice x.ay x.ys.length x.cy, .int .u8 x.st] 47) := ⟨_, rfl⟩
       have B1 := Lib.hid (show Below wr.heap.size wr W1 by rw [hW1]; exact B0.out.alloc B0.out.size _)
       have R1 := Lib.hid (show Cs W1 A9 c9 [] by rw [hW1]; exact R0.out.below ((Below.refl _ _).alloc (Nat.le_refl _) _))
       have X1 := Lib.hid (show ∀ j u, (cvcs [x])[j]? = some u → W1.cell? ((⟨g1, 0, none⟩ : Addr).add j) = some u by rw [hW1, hg1]; exact cell_box W0 x)
       rw [← hg1, ← hW1]
       clear hg1 hW1
       refine hK.out _ _ (HCX2.out.below (B1.out.block b HBL2.out)) (fun hS1 => ?_)
       clear hK K
       refine wpAnyH_ready (rs := [9]) (by kernel_rfl) (by simp) (AllReadyH.cons rfl (fun K hK => ?_) AllReadyH.nil)
       refine oper_append_cut (.tmp 61) (.tmp 66) rfl x (some ⟨g, 0, none⟩) d d (M.take d) ⟨g1, 0, none⟩ 1 rfl rfl HTP.out ((((HCS.out.below HBB.out)).below B1.out).cut d) (fun e => by cases e) X1.out (by omega) ?_
       intro v2 W2 ho hgw
       simp only [Act.put, LA]
       have B2 := Lib.hid (B1.out.grown hgw B1.out.size (fun q hq => by cases hq))
       have R2 := Lib.hid (R1.out.below ((Below.refl _ _).grown hgw (Nat.le_refl _) (fun q hq => by cases hq)))
       have O2 := Lib.hid (OwnC.mono ho (show w.heap.size ≤ W1.heap.size from Nat.le_trans HB.out.size (Nat.le_trans HBB.out.size B1.out.size)))
       have L2 := Lib.hid (show ∀ q, v2.ownBlock = some q → wr.heap.size ≤ q from fun q hq => Nat.le_trans B1.out.size (ho.lt q hq).1)
       refine hK.out _ _ (HCX2.out.below (B2.out.block b HBL2.out)) (fun hS2 => ?_)
       clear hK K ho hgw
       refine wpAnyH_ready (rs := [11]) (by kernel_rfl) (by simp) (AllReadyH.cons rfl (fun K hK => ?_) AllReadyH.nil)
       refine oper_append_cs (.tmp 67) (.tmp 68) rfl w.heap.size v2 (M.take d ++ [x]) [] A9 (0) (c9) rfl rfl O2.out R2.out HRL.out HRN.out (by rw [List.length_append, HTP.out, List.length_singleton]; omega) (Nat.le_trans HB.out.size (Nat.le_trans HBB.out.size B2.out.size)) ?_
       intro v3 W3 ho hgw hat
       simp only [Act.put, LA]
       have B3 := Lib.hid (B2.out.grown hgw B2.out.size (fun q hq => L2.out q hq))
       have O3 := Lib.hid ho
       refine hK.out _ _ (HCX2.out.below (B3.out.block b HBL2.out)) (fun hS3 => ?_)
       clear hK K ho hgw hat
       refine wpAnyH_ready (rs := [12]) (by kernel_rfl) (by simp) (AllReadyH.cons rfl (fun K hK => ?_) AllReadyH.nil)
       go_simp
       refine hK.out _ _ (HCX2.out.below (B3.out.block b HBL2.out)) (fun hS4 => ?_)
       clear hK K
       refine wpAnyH_done (by kernel_rfl) ?_ _
       refine NoPanic.normal ?_
       go_wp2_with fail
       go_roundw
       case rel =>
        refine ⟨i + 1, by omega, by go_num, ?_, HB.out.trans ((HBB.out.trans (B3.out.mono HBB.out.size)).mono HB.out.size)⟩
        rw [HPUT.out]
        exact O3.out
       case measure => simp [intOf]; omega
      ·
       skip
       go_wp2_with fail
       go_quiet (fail)
       have bq : Below wr.heap.size wr (wr.drewN nq) := below_drewN (Below.refl _ wr) _
       generalize wr.drewN nq = wq at bq ⊢
       have BQ := Lib.hid bq
       clear bq
       go_wp2_with fail
       go_quiet (fail)
       have bq := below_drewN BQ.out nq
       generalize wq.drewN nq = w3 at bq ⊢
       have ST3 := Lib.hid bq
       clear bq
       have BA := Lib.hid (show Below wr.heap.size wr (w3.alloc (.cells #[] 47)) from ST3.out.alloc ST3.out.size _)
       have HWA := Lib.hid (show w.heap.size ≤ (w3.alloc (.cells #[] 47)).heap.size from Nat.le_trans HB.out.size (Nat.le_trans HBB.out.size BA.out.size))
       have OA := Lib.hid (ownC_start w3 (base := w.heap.size) (Nat.le_trans HB.out.size (Nat.le_trans HBB.out.size ST3.out.size)))
       go_wp2_with (first
        | (at_builtin; go_loud (refine wpList_append_cs _ rfl _ _ rfl w.heap.size _ [] [] _ _ _ rfl rfl OA.out (cs_none _ _ (by simp only [maxLen]; omega)) (by simp) (fun e => by cases e) (by simp) HWA.out ?_; intro v9 w9 hown9 hg9 hat9; have B9 := Lib.hid (BA.out.grown hg9 BA.out.size (fun q hq => by have h1 := ST3.out.size; cases hq; exact h1)); clear hg9 hat9; obtain ⟨A9, c9, hv9, hcs9, hna9, -⟩ := hown9.cs (fun u hu => by cases hu); rw [List.nil_append] at hcs9; rw [List.nil_append, List.length_nil] at hv9; subst hv9; have hc9 := hcs9.cap; have CS9 := Lib.hid hcs9; have NA9 := Lib.hid hna9; clear hown9 hcs9 hna9)))
       have HRL := Lib.hid (show ([] : List Cv).length = 0 from rfl)
       have HRN := Lib.hid (show A9 = none → c9 = 0 from NA9.out)
       refine wp_region_noPanic ?_
       refine wp_region_held (S := fun w' => w'.cell? ⟨b, off + i * 5, none⟩ = some (.bool x.sx) ∧ w'.cell? ⟨b, off + i * 5 + 1, none⟩ = some (.slice x.ax x.xs.length x.cx) ∧ w'.cell? ⟨b, off + i * 5 + 2, none⟩ = some (.bool x.sy) ∧ w'.cell? ⟨b, off + i * 5 + 3, none⟩ = some (.slice x.ay x.ys.length x.cy) ∧ w'.cell? ⟨b, off + i * 5 + 4, none⟩ = some (.int .u8 x.st)) (by kernel_rfl) ?_
       obtain ⟨W0, hW0⟩ : ∃ W0 : World, W0 = (w9).drew := ⟨_, rfl⟩
       have B0 := Lib.hid (show Below wr.heap.size wr W0 by rw [hW0]; exact below_drewN B9.out 1)
       have R0 := Lib.hid (show Cs W0 A9 c9 [] by rw [hW0]; exact (CS9.out).below (below_drewN (Below.refl _ _) 1))
       have hS0 := HCX2.out.below (B0.out.block b HBL2.out)
       change wpAnyH _ _ _ _ _ _ _ _ (w9).drew
       rw [← hW0]
       clear hW0
       refine wpAnyH_take (i := 0) (v := ?_) rfl (by kernel_rfl) (by kernel_rfl) (by kernel_rfl) (fun _ _ _ h => h) (Or.inl ⟨by rfl, ?_⟩) hS0 ?_
       rotate_left
       ·
        rintro w' ⟨s1_, s2_, s3_, s4_, s5_⟩
        go_simp
        first | done | with_reducible rfl | rfl | (rw [if_pos HPD.out])
       simp only [Act.put, LA]
       refine wpAnyH_take (i := 1) (v := ?_) rfl (by kernel_rfl) (by kernel_rfl) (by kernel_rfl) (fun _ _ _ h => h) (Or.inl ⟨by rfl, ?_⟩) hS0 ?_
       rotate_left
       ·
        rintro w' ⟨s1_, s2_, s3_, s4_, s5_⟩
        go_simp
        first | done | with_reducible rfl | rfl | (rw [if_pos HPD.out])
       simp only [Act.put, LA]
       refine wpAnyH_take (i := 2) (v := ?_) rfl (by kernel_rfl) (by kernel_rfl) (by kernel_rfl) (fun _ _ _ h => h) (Or.inl ⟨by rfl, ?_⟩) hS0 ?_
       rotate_left
       ·
        rintro w' ⟨s1_, s2_, s3_, s4_, s5_⟩
        go_simp
        first | done | with_reducible rfl | rfl | (rw [if_pos HPD.out])
       simp only [Act.put, LA]
       refine wpAnyH_take (i := 3) (v := ?_) rfl (by kernel_rfl) (by kernel_rfl) (by kernel_rfl) (fun _ _ _ h => h) (Or.inl ⟨by rfl, ?_⟩) hS0 ?_
       rotate_left
       ·
        rintro w' ⟨s1_, s2_, s3_, s4_, s5_⟩
        go_simp
        first | done | with_reducible rfl | rfl | (rw [if_pos HPD.out])
       simp only [Act.put, LA]
       refine wpAnyH_take (i := 4) (v := ?_) rfl (by kernel_rfl) (by kernel_rfl) (by kernel_rfl) (fun _ _ _ h => h) (Or.inl ⟨by rfl, ?_⟩) hS0 ?_
       rotate_left
       ·
        rintro w' ⟨s1_, s2_, s3_, s4_, s5_⟩
        go_simp
        first | done | with_reducible rfl | rfl | (rw [if_pos HPD.out])
       simp only [Act.put, LA]
       refine wpAnyH_take (i := 5) (v := ?_) rfl (by kernel_rfl) (by kernel_rfl) (by kernel_rfl) (fun _ _ _ h => h) (Or.inl ⟨by rfl, ?_⟩) hS0 ?_
       rotate_left
       ·
        rintro w' ⟨s1_, s2_, s3_, s4_, s5_⟩
        go_simp
        first | done | with_reducible rfl | rfl | (rw [if_pos HPD.out])
       simp only [Act.put, LA]
       refine wpAnyH_take (i := 6) (v := ?_) rfl (by kernel_rfl) (by kernel_rfl) (by kernel_rfl) (fun _ _ _ h => h) (Or.inl ⟨by rfl, ?_⟩) hS0 ?_
       rotate_left
       ·
        rintro w' ⟨s1_, s2_, s3_, s4_, s5_⟩
        go_simp
        first | done | with_reducible rfl | rfl | (rw [if_pos HPD.out])
       simp only [Act.put, LA]
       refine wpAnyH_take (i := 7) (v := ?_) rfl (by kernel_rfl) (by kernel_rfl) (by kernel_rfl) (fun _ _ _ h => h) (Or.inl ⟨by rfl, ?_⟩) hS0 ?_
       rotate_left
       ·
        rintro w' ⟨s1_, s2_, s3_, s4_, s5_⟩
        go_simp
        first | done | with_reducible rfl | rfl | (rw [if_pos HPD.out])
       simp only [Act.put, LA]
       refine wpAnyH_take (i := 10) (v := ?_) rfl (by kernel_rfl) (by kernel_rfl) (by kernel_rfl) (fun _ _ _ h => h) (Or.inl ⟨by rfl, ?_⟩) hS0 ?_
       rotate_left
       ·
        rintro w' ⟨s1_, s2_, s3_, s4_, s5_⟩
        go_simp
        first | done | with_reducible rfl | rfl | (rw [if_pos HPD.out])
       simp only [Act.put, LA]
       refine wpAnyH_ready (rs := [8]) (by kernel_rfl) (by simp) (AllReadyH.cons rfl (fun K hK => ?_) AllReadyH.nil)
       go_simp
       obtain ⟨g1, hg1⟩ : ∃ g, g = W0.heap.size := ⟨_, rfl⟩
       obtain ⟨W1, hW1⟩ : ∃ V : World, V = W0.alloc (.cells #[.bool x.sx, .slice x.ax x.xs.length x.cx, .bool x.sy, .slice x.ay x.ys.length x.cy, .int .u8 x.st] 47) := ⟨_, rfl⟩
       have B1 := Lib.hid (show Below wr.heap.size wr W1 by rw [hW1]; exact B0.out.alloc B0.out.size _)
       have R1 := Lib.hid (show Cs W1 A9 c9 [] by rw [hW1]; exact R0.out.below ((Below.refl _ _).alloc (Nat.le_refl _) _))
       have X1 := Lib.hid (show ∀ j u, (cvcs [x])[j]? = some u → W1.cell? ((⟨g1, 0, none⟩ : Addr).add j) = some u by rw [hW1, hg1]; exact cell_box W0 x)
       rw [← hg1, ← hW1]
       clear hg1 hW1
       refine hK.out _ _ (HCX2.out.below (B1.out.block b HBL2.out)) (fun hS1 => ?_)
       clear hK K
       refine wpAnyH_ready (rs := [9]) (by kernel_rfl) (by simp) (AllReadyH.cons rfl (fun K hK => ?_) AllReadyH.nil)
       refine oper_append_cut (.tmp 61) (.tmp 66) rfl x (some ⟨g, 0, none⟩) p d (M.take p) ⟨g1, 0, none⟩ 1 rfl rfl HTP.out ((((HCS.out.below HBB.out)).below B1.out).cut p) (fun e => by cases e) X1.out (by omega) ?_
       intro v2 W2 ho hgw
       simp only [Act.put, LA]
       have B2 := Lib.hid (B1.out.grown hgw B1.out.size (fun q hq => by cases hq))
       have R2 := Lib.hid (R1.out.below ((Below.refl _ _).grown hgw (Nat.le_refl _) (fun q hq => by cases hq)))
       have O2 := Lib.hid (OwnC.mono ho (show w.heap.size ≤ W1.heap.size from Nat.le_trans HB.out.size (Nat.le_trans HBB.out.size B1.out.size)))
       have L2 := Lib.hid (show ∀ q, v2.ownBlock = some q → wr.heap.size ≤ q from fun q hq => Nat.le_trans B1.out.size (ho.lt q hq).1)
       refine hK.out _ _ (HCX2.out.below (B2.out.block b HBL2.out)) (fun hS2 => ?_)
       clear hK K ho hgw
       refine wpAnyH_ready (rs := [11]) (by kernel_rfl) (by simp) (AllReadyH.cons rfl (fun K hK => ?_) AllReadyH.nil)
       refine oper_append_cs (.tmp 67) (.tmp 68) rfl w.heap.size v2 (M.take p ++ [x]) [] A9 (0) (c9) rfl rfl O2.out R2.out HRL.out HRN.out (by rw [List.length_append, HTP.out, List.length_singleton]; omega) (Nat.le_trans HB.out.size (Nat.le_trans HBB.out.size B2.out.size)) ?_
       intro v3 W3 ho hgw hat
       simp only [Act.put, LA]
       have B3 := Lib.hid (B2.out.grown hgw B2.out.size (fun q hq => L2.out q hq))
       have O3 := Lib.hid ho
       refine hK.out _ _ (HCX2.out.below (B3.out.block b HBL2.out)) (fun hS3 => ?_)
       clear hK K ho hgw hat
       refine wpAnyH_ready (rs := [12]) (by kernel_rfl) (by simp) (AllReadyH.cons rfl (fun K hK => ?_) AllReadyH.nil)
       go_simp
       refine hK.out _ _ (HCX2.out.below (B3.out.block b HBL2.out)) (fun hS4 => ?_)
       clear hK K
       refine wpAnyH_done (by kernel_rfl) ?_ _
       refine NoPanic.normal ?_
       go_wp2_with fail
       go_roundw
       case rel =>
        refine ⟨i + 1, by omega, by go_num, ?_, HB.out.trans ((HBB.out.trans (B3.out.mono HBB.out.size)).mono HB.out.size)⟩
        rw [HPUT.out]
        exact O3.out
       case measure => simp [intOf]; omega
  -- the end
  ·
   obtain rfl : i = n := by omega
   have t1 : decide ((i : Int) < (i : Int)) = false := decide_eq_false (by omega)
   obtain ⟨B, hB⟩ : ∃ B, B = wr.heap.size := ⟨_, rfl⟩
   have HBS := Lib.hid hB
   clear hB
   go_wp2_with fail
   go_loopw [9, 8] (fun z v wx => ∃ (q : Nat), q ≤ m ∧ z = .int .i64 q ∧ OwnC wx B v ((M.take q).filter fun u => u.st != 0) ∧ Below wr.heap.size wr wx) (fun z _ _ => m - (intOf z).toNat)
   case atStart => exact ⟨0, Nat.zero_le _, rfl, OwnC.nil _ _, Below.refl _ _⟩
   case round =>
    obtain ⟨q, hq, rfl, hov, hbb⟩ := hrel
    have HOV := Lib.hid hov
    have HBB := Lib.hid hbb
    clear hov hbb
    by_cases hqm : q < m
    ·
     have k1 : (q : Int) < (m : Int) := by omega
     have k2 : (0 : Int) ≤ (q : Int) := by omega
     have t2 : decide ((q : Int) < (m : Int)) = true := decide_eq_true k1
     obtain ⟨g, og, rfl, hgl, hgc⟩ := (HCS.out.below HBB.out).at_ (by rw [← HML.out]; omega)
     have hcy := hgc q (by rw [← HML.out]; exact hqm)
     have hmy := cat_mem (l := M) (i := q) (by rw [← HML.out]; exact hqm)
     obtain ⟨y, hy⟩ : ∃ y, y = cat M q := ⟨_, rfl⟩
     rw [← hy] at hcy hmy
     have HNX := Lib.hid (filter_next (by rw [← HML.out]; exact hqm) hy)
     have HLE := Lib.hid (show ((M.take q).filter fun u => u.st != 0).length ≤ q from Nat.le_trans (List.length_filter_le _ _) (by rw [List.length_take]; omega))
     have HYU := Lib.hid ((HCU.out y (HIN.out y hmy)).below HBB.out)
     have p3 := HYU.out.1.cap
     have p4 := HYU.out.2.1.cap
     obtain ⟨c1, c2, c3, c4, c5⟩ := hcy
     clear hy hgc hgl hqm hmy
     by_cases hst : y.st = 0
     ·
      have t3 : ((y.st : Int) != 0) = false := by rw [hst]; rfl
      have HST := Lib.hid hst
      clear hst
      go_wp2_with fail
      go_roundw
      case rel =>
       refine ⟨q + 1, by omega, by go_num, ?_, HBB.out⟩
       rw [HNX.out, if_pos HST.out, List.append_nil]
       exact HOV.out
      case measure => simp [intOf]; omega
     ·
      have t3 : ((y.st : Int) != 0) = true := by rw [bne_iff_ne]; omega
      have HST := Lib.hid hst
      have hbs : B ≤ wr.heap.size := by rw [HBS.out]; exact HBB.out.size
      have HBW := Lib.hid hbs
      clear hst hbs
      go_wp2_with (first
       | (at_builtin; go_loud (refine wpList_append_cell _ rfl _ _ rfl B _ ((M.take q).filter fun u => u.st != 0) y _ 1 rfl rfl (HOV.out.alloc _) (cell_box _ y) (by have := HLE.out; omega) (Nat.le_trans HBW.out (by simp)) ?_; intro v5 w5 hown5 hg5 hk5; have HO5 := Lib.hid hown5; have HG5 := Lib.hid hg5; clear hown5 hg5 hk5)))
      go_roundw
      case rel =>
       refine ⟨q + 1, by omega, by go_num, ?_, ((HBB.out.alloc HBB.out.size _).grown HG5.out (Nat.le_trans HBB.out.size (by simp)) (fun k hk => by rw [← HBS.out]; exact (HOV.out.lt k hk).1))⟩
       rw [HNX.out, if_neg HST.out]
       exact HO5.out
      case measure => simp [intOf]; omega
    ·
     obtain rfl : q = m := by omega
     have t2 : decide ((q : Int) < (q : Int)) = false := decide_eq_false (by omega)
     have hfl : (M.take q).filter (fun u => u.st != 0) = M.filter (fun u => u.st != 0) := by rw [HML.out, List.take_length]
     have HFL := Lib.hid hfl
     clear hfl
     go_wp2_with fail
     go_ret
     refine ⟨_, M.filter fun u => u.st != 0, rfl, last_cl HM.out HN.out, fun u hu => HIN.out u (List.mem_filter.1 hu).1, ?_, HB.out.trans (HBB.out.mono HB.out.size)⟩
     rw [← HFL.out]
     exact OwnC.mono HOV.out (by rw [HBS.out]; exact HB.out.size)
end Go.Proofs.YtmfncapgikobkaaGreat

namespace Go.Proofs.YtmfncapgikobkaaGreat
set_option maxRecDepth 100000
set_option linter.unusedVariables false
set_option linter.unusedSimpArgs false
open Go.RowKit Nds Num
set_option maxRecDepth 100000 in
set_option maxHeartbeats 1600000 in
theorem rlevel_any (A : Option Addr) (c n : Nat) (l : List Nd) (w : World) (h : Ns w A c l) (hn : l.length = n) :
  Calls Tryz.prog 14 #[.agg #[.slice A n c]] w fun e w' => e = .returned (.int .i64 (levelZ l)) ∧ Below w.heap.size w w' := by
 have hcap := h.cap
 rw [hn] at hcap
 have HB := Lib.hid ((Below.refl w.heap.size w).alloc (Nat.le_refl _) (.cells #[.slice A n c] 27))
 by_cases h0 : n = 0
 ·
  have hr : levelZ l = 0 := by
   unfold levelZ
   rw [if_pos (List.eq_nil_of_length_eq_zero (hn.trans h0))]
  rw [hr]
  have t1 : ((n : Int) == 0) = true := by rw [h0]; rfl
  clear h0 hn hr h
  go_enter Tryz.func14, Tryz.ntmps14
  go_wp2_with fail
  go_ret
  exact ⟨rfl, HB.out⟩
 ·
  obtain ⟨b, off, rfl, hb, hc⟩ := h.at_ (by omega)
  obtain ⟨p, rfl⟩ : ∃ p, n = p + 1 := ⟨n - 1, by omega⟩
  have c1 := (hc p (by omega)).1
  have hr : levelZ l = (at_ l p).lv := by
   unfold levelZ
   rw [if_neg (fun e => by rw [e] at hn; cases hn), hn]
   rfl
  rw [hr]
  generalize (at_ l p).lv = u at *
  have t1 : (((p + 1 : Nat) : Int) == 0) = false := beq_eq_false_iff_ne.2 (by omega)
  have t2 : ((p : Int) + 1 == 0) = false := beq_eq_false_iff_ne.2 (by omega)
  have i1 : (p : Int) < (p : Int) + 1 := by omega
  clear h0 hn hr h hc
  go_enter Tryz.func14, Tryz.ntmps14
  go_wp2_with fail
  go_ret
  exact ⟨rfl, HB.out⟩
def RetRi (l : List Nd) (most : Int) (w : World) (e : Ending) (w' : World) : Prop :=
 Below w.heap.size w w' ∧ ((most < (countT (den l l.length) : Int) ∧ e = .returned (.tuple #[.slice none 0 0, .bool false])) ∨
  ((countT (den l l.length) : Int) ≤ most ∧ ∃ A c L, e = .returned (.tuple #[.slice A L.length c, .bool true]) ∧ Cs w' A c L ∧ (∀ v ∈ L, CvR v) ∧ L.map Cv.cl = cellsL l))
set_option maxRecDepth 100000 in
set_option maxHeartbeats 3200000 in
theorem rclist_many (A : Option Addr) (c n : Nat) (l : List Nd) (most : Int) (w : World) (h : Ns w A c l) (hn : l.length = n) (hl : looseB l = true) (hn9 : n ≤ 900000) (h1 : -9223372036854775808 ≤ most) (h2 : most ≤ 9223372036854775807) (hc : most < (countT (den l n) : Int)) :
  Calls Tryz.prog 16 #[.agg #[.slice A n c], .int .i64 most] w (RetRi l most w) := by
 have hcap := h.cap
 rw [hn] at hcap
 obtain ⟨W, hW⟩ : ∃ W : World, W = w.alloc (.cells #[.slice A n c] 27) := ⟨_, rfl⟩
 have hb : Below w.heap.size w W := by rw [hW]; exact (Below.refl _ w).alloc (Nat.le_refl _) _
 have b1 : W.heap[w.heap.size]? = some (.cells #[.slice A n c] 27) := by rw [hW]; exact heap_alloc_new w _
 have g0 := one_cell b1
 have HWL := Lib.hid (show w.heap.size < W.heap.size from (Array.getElem?_eq_some_iff.1 b1).1)
 have HW := Lib.hid hW
 have HB := Lib.hid hb
 have HB1 := Lib.hid b1
 have HC := Lib.hid (show Ns W A c l from h.below hb)
 have HN := Lib.hid hn
 have HLL := Lib.hid hl
 have HCS := Lib.hid (count_small hl (i := n) (by omega) (M := 1329) rfl)
 have hp0 := p2_mono (show 63 ≤ 1330 by omega)
 have hp1 : p2 63 = 9223372036854775808 := by decide
 have HM0 := Lib.hid (show -p2 1330 ≤ most ∧ most ≤ p2 1330 from ⟨by omega, by omega⟩)
 clear hp0 hp1
 obtain ⟨r, hr⟩ : ∃ r, r = ordI ((countT (den l n) : Nat) : Int) most := ⟨_, rfl⟩
 have HRr := Lib.hid hr
 rw [hW] at g0
 have hr1 : r = 1 := by rw [hr]; unfold ordI; rw [if_neg (by omega), if_neg (by omega)]
 subst hr1
 have HMC := Lib.hid hc
 clear h hn hl hW hb b1 hc hr
 go_enter Tryz.func16, Tryz.ntmps16
 go_wp2_with (first
  | (go_at_call 19; go_loud (rw [← HW.out]; refine (rcount_any A c n l _ HC.out HN.out HLL.out hn9).mono ?_; rintro e w5 ⟨A5, c5, s5, r5, rfl, u5, k5, v5, b5⟩; have L5 := Lib.hid (count_len k5 v5 rfl HCS.out); have hcap5 := u5.cap; have U5 := Lib.hid u5; have K5 := Lib.hid k5; have V5 := Lib.hid v5; have B5 := Lib.hid b5; have Q5 := Lib.hid ((b5.block w.heap.size HWL.out).trans HB1.out); have g1 := one_cell Q5.out; clear u5 k5 v5 b5))
  | (go_at_call 22; go_loud (refine (rbof_any most _ h1 h2).mono ?_; rintro e w6 ⟨A6, c6, s6, r6, rfl, u6, k6, v6, b6⟩; have L6 := Lib.hid (len_near k6 v6 HM0.out.1 HM0.out.2); have hcap6 := u6.cap; have U6 := Lib.hid u6; have V6 := Lib.hid v6; have B6 := Lib.hid (B5.out.trans (b6.mono B5.out.size)); have U56 := Lib.hid (U5.out.below b6); have Q6 := Lib.hid ((B6.out.block w.heap.size HWL.out).trans HB1.out); have g2 := one_cell Q6.out; clear u6 k6 v6 b6 g1))
  | (go_at_call 45; go_loud (refine (rbcmp_any s5 s6 A5 A6 c5 c6 r5 r6 _ U56.out U6.out (by have := L5.out; omega) (by have := L6.out; omega)).mono ?_; rintro e w7 ⟨rfl, b7⟩; rw [V5.out, V6.out, ← HRr.out]; have B7 := Lib.hid (B6.out.trans (b7.mono B6.out.size)); have Q7 := Lib.hid ((B7.out.block w.heap.size HWL.out).trans HB1.out); have g3 := one_cell Q7.out; clear b7 g2)))
 go_ret2
 exact ⟨HB.out.trans (B7.out.mono HB.out.size), .inl ⟨by rw [HN.out]; exact HMC.out, rfl⟩⟩
set_option maxRecDepth 100000 in
set_option maxHeartbeats 3200000 in
theorem rclist_none (A : Option Addr) (c : Nat) (l : List Nd) (most : Int) (w : World) (h : Ns w A c l) (hn : l.length = 0) (hl : looseB l = true) (h1 : -9223372036854775808 ≤ most) (h2 : most ≤ 9223372036854775807) (hc : (countT (den l 0) : Int) ≤ most) :
  Calls Tryz.prog 16 #[.agg #[.slice A 0 c], .int .i64 most] w (RetRi l most w) := by
 obtain ⟨n, hn0⟩ : ∃ n, n = 0 := ⟨_, rfl⟩
 have hn9 : n ≤ 900000 := by omega
 rw [← hn0] at hn hc ⊢
 have hcap := h.cap
 rw [hn] at hcap
 obtain ⟨W, hW⟩ : ∃ W : World, W = w.alloc (.cells #[.slice A n c] 27) := ⟨_, rfl⟩
 have hb : Below w.heap.size w W := by rw [hW]; exact (Below.refl _ w).alloc (Nat.le_refl _) _
 have b1 : W.heap[w.heap.size]? = some (.cells #[.slice A n c] 27) := by rw [hW]; exact heap_alloc_new w _
 have g0 := one_cell b1
 have HWL := Lib.hid (show w.heap.size < W.heap.size from (Array.getElem?_eq_some_iff.1 b1).1)
 have HW := Lib.hid hW
 have HB := Lib.hid hb
 have HB1 := Lib.hid b1
 have HC := Lib.hid (show Ns W A c l from h.below hb)
 have HN := Lib.hid hn
 have HLL := Lib.hid hl
 have HCS := Lib.hid (count_small hl (i := n) (by omega) (M := 1329) rfl)
 have hp0 := p2_mono (show 63 ≤ 1330 by omega)
 have hp1 : p2 63 = 9223372036854775808 := by decide
 have HM0 := Lib.hid (show -p2 1330 ≤ most ∧ most ≤ p2 1330 from ⟨by omega, by omega⟩)
 clear hp0 hp1
 obtain ⟨r, hr⟩ : ∃ r, r = ordI ((countT (den l n) : Nat) : Int) most := ⟨_, rfl⟩
 have HRr := Lib.hid hr
 rw [hW] at g0
 have t1 : decide (r > 0) = false := by rw [hr]; unfold ordI; split <;> simp <;> omega
 have t2 : decide (0 < r) = false := t1
 have t3 : ((n : Int) == 0) = true := by rw [hn0]; rfl
 have HMC := Lib.hid hc
 have HN0 := Lib.hid hn0
 clear h hn hl hW hb b1 hc hr hn0
 go_enter Tryz.func16, Tryz.ntmps16
 go_wp2_with (first
  | (go_at_call 19; go_loud (rw [← HW.out]; refine (rcount_any A c n l _ HC.out HN.out HLL.out hn9).mono ?_; rintro e w5 ⟨A5, c5, s5, r5, rfl, u5, k5, v5, b5⟩; have L5 := Lib.hid (count_len k5 v5 rfl HCS.out); have hcap5 := u5.cap; have U5 := Lib.hid u5; have K5 := Lib.hid k5; have V5 := Lib.hid v5; have B5 := Lib.hid b5; have Q5 := Lib.hid ((b5.block w.heap.size HWL.out).trans HB1.out); have g1 := one_cell Q5.out; clear u5 k5 v5 b5))
  | (go_at_call 22; go_loud (refine (rbof_any most _ h1 h2).mono ?_; rintro e w6 ⟨A6, c6, s6, r6, rfl, u6, k6, v6, b6⟩; have L6 := Lib.hid (len_near k6 v6 HM0.out.1 HM0.out.2); have hcap6 := u6.cap; have U6 := Lib.hid u6; have V6 := Lib.hid v6; have B6 := Lib.hid (B5.out.trans (b6.mono B5.out.size)); have U56 := Lib.hid (U5.out.below b6); have Q6 := Lib.hid ((B6.out.block w.heap.size HWL.out).trans HB1.out); have g2 := one_cell Q6.out; clear u6 k6 v6 b6 g1))
  | (go_at_call 45; go_loud (refine (rbcmp_any s5 s6 A5 A6 c5 c6 r5 r6 _ U56.out U6.out (by have := L5.out; omega) (by have := L6.out; omega)).mono ?_; rintro e w7 ⟨rfl, b7⟩; rw [V5.out, V6.out, ← HRr.out]; have B7 := Lib.hid (B6.out.trans (b7.mono B6.out.size)); have Q7 := Lib.hid ((B7.out.block w.heap.size HWL.out).trans HB1.out); have g3 := one_cell Q7.out; clear b7 g2)))
 go_ret2
 refine ⟨HB.out.trans (B7.out.mono HB.out.size), .inr ⟨by rw [HN.out]; exact HMC.out, none, 0, [], rfl, cs_none _ _ (by simp [maxLen]), fun v hv => (by cases hv), ?_⟩⟩
 have h3 := cells_len HLL.out
 rw [HN.out, HN0.out, den_zero] at h3
 rw [List.eq_nil_of_length_eq_zero h3]
 rfl
set_option maxRecDepth 100000 in
set_option maxHeartbeats 3200000 in
theorem rclist_some (A : Option Addr) (c n : Nat) (l : List Nd) (most : Int) (w : World) (h : Ns w A c l) (hn : l.length = n) (hl : looseB l = true) (hn9 : n ≤ 900000) (hn0 : 0 < n) (h1 : -9223372036854775808 ≤ most) (h2 : most ≤ 9223372036854775807) (h29 : most ≤ 800000) (hc : (countT (den l n) : Int) ≤ most) :
  Calls Tryz.prog 16 #[.agg #[.slice A n c], .int .i64 most] w (RetRi l most w) := by
 obtain ⟨x, hx⟩ : ∃ x, x = at_ l (n - 1) := ⟨_, rfl⟩
 have hfx := loose_fit hl (i := n - 1) (by omega)
 rw [← hx] at hfx
 have hxv := fit_lv hfx
 obtain ⟨m, hm⟩ : ∃ m : Nat, x.lv = (m : Int) + 1 := ⟨(x.lv - 1).toNat, by omega⟩
 have hm9 : m ≤ 1328 := by omega
 have hcap := h.cap
 rw [hn] at hcap
 obtain ⟨W, hW⟩ : ∃ W : World, W = w.alloc (.cells #[.slice A n c] 27) := ⟨_, rfl⟩
 have hb : Below w.heap.size w W := by rw [hW]; exact (Below.refl _ w).alloc (Nat.le_refl _) _
 have b1 : W.heap[w.heap.size]? = some (.cells #[.slice A n c] 27) := by rw [hW]; exact heap_alloc_new w _
 have g0 := one_cell b1
 have HWL := Lib.hid (show w.heap.size < W.heap.size from (Array.getElem?_eq_some_iff.1 b1).1)
 have HW := Lib.hid hW
 have HB := Lib.hid hb
 have HB1 := Lib.hid b1
 have HC := Lib.hid (show Ns W A c l from h.below hb)
 have HN := Lib.hid hn
 have HLL := Lib.hid hl
 have HCS := Lib.hid (count_small hl (i := n) (by omega) (M := 1329) rfl)
 have hp0 := p2_mono (show 63 ≤ 1330 by omega)
 have hp1 : p2 63 = 9223372036854775808 := by decide
 have HM0 := Lib.hid (show -p2 1330 ≤ most ∧ most ≤ p2 1330 from ⟨by omega, by omega⟩)
 clear hp0 hp1
 obtain ⟨r, hr⟩ : ∃ r, r = ordI ((countT (den l n) : Nat) : Int) most := ⟨_, rfl⟩
 have HRr := Lib.hid hr
 rw [hW] at g0
 have t1 : decide (r > 0) = false := by rw [hr]; unfold ordI; split <;> simp <;> omega
 have t2 : decide (0 < r) = false := t1
 have t3 : ((n : Int) == 0) = false := beq_eq_false_iff_ne.2 (by omega)
 have HLV := Lib.hid (show levelZ l = (m : Int) + 1 by unfold levelZ; rw [if_neg (fun e => by rw [e] at hn; simp at hn; omega), hn, ← hx]; exact hm)
 have HXV := Lib.hid (show (at_ l (n - 1)).lv = (m : Int) + 1 by rw [← hx]; exact hm)
 have hq1 := p2_mono (show m + 1 ≤ 1329 by omega)
 have hq2 := p2_pos m
 have hq3 := p2_succ m
 have hq4 : p2 1330 = p2 1329 + p2 1329 := p2_succ 1329
 have HPM := Lib.hid (show -p2 1330 ≤ p2 m ∧ p2 m ≤ p2 1330 from ⟨by omega, by omega⟩)
 have HPC := Lib.hid (show -p2 1329 ≤ -p2 m ∧ -p2 m + p2 (m + 1) ≤ p2 1329 from ⟨by omega, by omega⟩)
 have HMC := Lib.hid hc
 have HCN := Lib.hid (show countT (den l n) ≤ 900000 by omega)
 have HN1 := Lib.hid (show n - 1 + 1 = n by omega)
 have HNI := Lib.hid (show ((n - 1 : Nat) : Int) + 1 = n by omega)
 have HCO := Lib.hid (show listT (den l n) (-p2 m) (-p2 m) = cornL l by
  unfold cornL
  rw [hn, ← hx, hm, show ((m : Int) + 1).toNat - 1 = m by omega])
 clear h hn hl hW hb b1 hc hr hx hfx hxv hm hq1 hq2 hq3 hq4
 go_enter Tryz.func16, Tryz.ntmps16
 go_wp2_with (first
  | (go_at_call 19; go_loud (rw [← HW.out]; refine (rcount_any A c n l _ HC.out HN.out HLL.out hn9).mono ?_; rintro e w5 ⟨A5, c5, s5, r5, rfl, u5, k5, v5, b5⟩; have L5 := Lib.hid (count_len k5 v5 rfl HCS.out); have hcap5 := u5.cap; have U5 := Lib.hid u5; have K5 := Lib.hid k5; have V5 := Lib.hid v5; have B5 := Lib.hid b5; have Q5 := Lib.hid ((b5.block w.heap.size HWL.out).trans HB1.out); have g1 := one_cell Q5.out; clear u5 k5 v5 b5))
  | (go_at_call 22; go_loud (refine (rbof_any most _ h1 h2).mono ?_; rintro e w6 ⟨A6, c6, s6, r6, rfl, u6, k6, v6, b6⟩; have L6 := Lib.hid (len_near k6 v6 HM0.out.1 HM0.out.2); have hcap6 := u6.cap; have U6 := Lib.hid u6; have V6 := Lib.hid v6; have B6 := Lib.hid (B5.out.trans (b6.mono B5.out.size)); have U56 := Lib.hid (U5.out.below b6); have Q6 := Lib.hid ((B6.out.block w.heap.size HWL.out).trans HB1.out); have g2 := one_cell Q6.out; clear u6 k6 v6 b6 g1))
  | (go_at_call 45; go_loud (refine (rbcmp_any s5 s6 A5 A6 c5 c6 r5 r6 _ U56.out U6.out (by have := L5.out; omega) (by have := L6.out; omega)).mono ?_; rintro e w7 ⟨rfl, b7⟩; rw [V5.out, V6.out, ← HRr.out]; have B7 := Lib.hid (B6.out.trans (b7.mono B6.out.size)); have Q7 := Lib.hid ((B7.out.block w.heap.size HWL.out).trans HB1.out); have g3 := one_cell Q7.out; clear b7 g2))
  | (go_at_call 14; go_loud (refine (rlevel_any A c n l _ (HC.out.below B7.out) HN.out).mono ?_; rintro e w8 ⟨rfl, b8⟩; rw [HLV.out]; have B8 := Lib.hid (B7.out.trans (b8.mono B7.out.size)); have Q8 := Lib.hid ((B8.out.block w.heap.size HWL.out).trans HB1.out); have g4 := one_cell Q8.out; clear b8 g3))
  | (go_at_call 32; go_loud (refine (rbpow_any _ _).mono ?_; rintro e w9 ⟨A9, c9, s9, r9, rfl, u9, k9, v9, b9⟩; rw [pow_p2 m (by omega)] at v9; have L9 := Lib.hid (len_near k9 v9 HPM.out.1 HPM.out.2); have hcap9 := u9.cap; have U9 := Lib.hid u9; have V9 := Lib.hid v9; have B9 := Lib.hid (B8.out.trans (b9.mono B8.out.size)); have Q9 := Lib.hid ((B9.out.block w.heap.size HWL.out).trans HB1.out); have g5 := one_cell Q9.out; clear u9 k9 v9 b9 g4))
  | (go_at_call 31; go_loud (refine (rminus_any s9 A9 c9 r9 _ U9.out (by have := L9.out; omega)).mono ?_; rintro e w10 ⟨A0, c0, s0, r0, rfl, u0, k0, v0, b0⟩; rw [V9.out] at v0; have hcap0 := u0.cap; have U0 := Lib.hid u0; have K0 := Lib.hid k0; have V0 := Lib.hid v0; have B0 := Lib.hid (B9.out.trans (b0.mono B9.out.size)); have Q0 := Lib.hid ((B0.out.block w.heap.size HWL.out).trans HB1.out); have BL := Lib.hid ((Below.refl w10.heap.size w10).alloc (Nat.le_refl _) (.cells #[.bool s0, .slice A0 r0.length c0] 42)); have g6 := one_cell Q0.out; have g7 := one_cell ((BL.out.block w.heap.size (Array.getElem?_eq_some_iff.1 Q0.out).1).trans Q0.out); have hx := (show HX (w10.alloc (.cells #[.bool s0, .slice A0 r0.length c0] 42)) w10.heap.size s0 A0 c0 r0 (-p2 m) from ⟨heap_alloc_new w10 _, U0.out.below BL.out, K0.out, V0.out, fun h0 a ea => by have := us_lt U0.out h0 a ea; omega⟩); have x0 := hx.c0; have x1 := hx.c1; have HXX := Lib.hid hx; have HCALL := Lib.hid (show Calls Tryz.prog 46 #[.slice A n c, .int .i64 n, .agg #[.bool s0, .slice A0 r0.length c0], .agg #[.bool s0, .slice A0 r0.length c0]] (w10.alloc (.cells #[.bool s0, .slice A0 r0.length c0] 42)) (RetRl (PXY A0 r0 A0 r0) (cornL l) (w10.alloc (.cells #[.bool s0, .slice A0 r0.length c0] 42))) by (have h := rlist_rec A c n l HLL.out HN.out hn9 m (n - 1) s0 A0 c0 r0 s0 A0 c0 r0 (-p2 m) (-p2 m) (w10.alloc (.cells #[.bool s0, .slice A0 r0.length c0] 42)) hm9 (by omega) HXV.out ((HC.out.below B0.out).below BL.out) hx.us hx.us hx.cn hx.cn hx.v hx.v HPC.out.1 HPC.out.2 HPC.out.1 HPC.out.2 (by rw [HN1.out]; exact HCN.out)); rw [HN1.out, HCO.out, HNI.out] at h; exact h); clear hx u0 k0 v0 b0 g5))
  | (go_at_call 46; go_loud (refine HCALL.out.mono ?_; rintro e w11 ⟨v2, M2, rfl, o8, mm8, b8⟩; obtain ⟨A2, c2, hv2, hcs2, hna2, -⟩ := o8.o.cs (fun u hu => (o8.ok u hu).1); subst hv2; have hc8 := hcs2.cap; have CS8 := Lib.hid hcs2; have O8 := Lib.hid o8; have B8_ := Lib.hid (B0.out.trans ((BL.out.trans (b8.mono BL.out.size)).mono B0.out.size)); have MM8 := Lib.hid mm8; have ML8 := Lib.hid (show M2.length ≤ 900000 by (have h2 := congrArg List.length mm8; rw [List.length_map, ← HCO.out, listT_len] at h2; have := HCN.out; omega)); clear hcs2 hna2 o8 mm8 b8))
  | (go_at_call 20; go_loud (refine (rclast_any A2 c2 M2.length M2 _ CS8.out rfl (fun u hu => (O8.out.ok u hu).2.1) ML8.out).mono ?_; rintro e w12 ⟨v3, out, rfl, ho, hmem, hown, b12⟩; obtain ⟨A3, c3, hv3, hcs3, -, -⟩ := hown.cs (fun u hu => (CvU.below (O8.out.ok u (hmem u hu)).1 b12)); subst hv3; have CS3 := Lib.hid hcs3; have B12 := Lib.hid (B8_.out.trans (b12.mono B8_.out.size)); have HOO := Lib.hid ho; have HME := Lib.hid hmem; clear hcs3 ho hmem hown b12)))
 go_ret2
 refine ⟨HB.out.trans (B12.out.mono HB.out.size), .inr ⟨by rw [HN.out]; exact HMC.out, A3, c3, out, rfl, CS3.out, fun v hv => (O8.out.ok v (HME.out v hv)).2.1, ?_⟩⟩
 rw [HOO.out, MM8.out]
 rfl
theorem rclist_any (A : Option Addr) (c n : Nat) (l : List Nd) (most : Int) (w : World) (h : Ns w A c l) (hn : l.length = n) (hl : looseB l = true) (hn9 : n ≤ 900000) (h1 : -9223372036854775808 ≤ most) (h2 : most ≤ 800000) :
  Calls Tryz.prog 16 #[.agg #[.slice A n c], .int .i64 most] w (RetRi l most w) := by
 by_cases hc : most < (countT (den l n) : Int)
 ·
  exact rclist_many A c n l most w h hn hl hn9 h1 (by omega) hc
 ·
  rcases Nat.eq_zero_or_pos n with h0 | h0
  ·
   subst h0
   exact rclist_none A c l most w h hn hl h1 (by omega) (by omega)
  ·
   exact rclist_some A c n l most w h hn hl hn9 h0 h1 (by omega) h2 (by omega)
end Go.Proofs.YtmfncapgikobkaaGreat
