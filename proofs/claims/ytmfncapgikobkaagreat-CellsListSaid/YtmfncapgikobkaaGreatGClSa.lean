/-
  cells, the reference: Same.
  cells.standing: the cells that aren't overwritten, nor 0, in order.
-/
import Derived.Test.YtmfncapgikobkaaGreatGClPb
import Derived.Test.YtmfncapgikobkaaGreatGBigF
import Derived.Test.YtmfncapgikobkaaGreatGClLe
import Derived.Test.YtmfncapgikobkaaGreatGNcPB
import Derived.Deep.QuietTactic
import Derived.BigQuiet
import Derived.Test.YtmfncapgikobkaaGreatLay0

namespace Go.Proofs.YtmfncapgikobkaaGreat
set_option maxRecDepth 100000
set_option linter.unusedVariables false
set_option linter.unusedSimpArgs false
open Go.RowKit Nds Num
def Cv.kk (v : Cv) : (Bool × List Nat) × (Bool × List Nat) × Nat := ((v.sx, v.xs), (v.sy, v.ys), v.st)
def sameCs (l m : List Cv) : Bool := decide (l.map Cv.kk = m.map Cv.kk)
theorem same_len {l m : List Cv} (h : l.length ≠ m.length) : sameCs l m = false := decide_eq_false fun e => h (by have := congrArg List.length e; simpa using this)
theorem same_no {l m : List Cv} {i : Nat} (h1 : i < l.length) (h2 : i < m.length) (h : (cat l i).kk ≠ (cat m i).kk) : sameCs l m = false := decide_eq_false fun e => h (by
 have h3 := congrArg (fun q => q[i]?) e
 simp only [List.getElem?_map, List.getElem?_eq_getElem h1, List.getElem?_eq_getElem h2, Option.map_some, Option.some.injEq] at h3
 rw [cat_get h1, cat_get h2]
 exact h3)
theorem same_yes {l m : List Cv} {n : Nat} (h1 : l.length = n) (h2 : m.length = n) (h : ∀ i, i < n → (cat l i).kk = (cat m i).kk) : sameCs l m = true := decide_eq_true (by
 refine List.ext_getElem (by simp [h1, h2]) fun i a b => ?_
 rw [List.length_map] at a b
 rw [List.getElem_map, List.getElem_map, ← cat_get a, ← cat_get b]
 exact h i (by omega))
set_option maxRecDepth 100000 in
set_option maxHeartbeats 3200000 in
theorem rcsame_any (A B : Option Addr) (c d n m : Nat) (l k : List Cv) (w : World) (h : Cs w A c l) (h2 : Cs w B d k) (hn : l.length = n) (hm : k.length = m) (hlx : ∀ v ∈ l, v.xs.length ≤ 1000000 ∧ v.ys.length ≤ 1000000) :
  Calls Tryz.prog 12 #[.slice A n c, .slice B m d] w fun e w' => e = .returned (.bool (sameCs l k)) ∧ Below w.heap.size w w' := by
 have hcap := h.cap
 have hcap2 := h2.cap
 rw [hn] at hcap
 rw [hm] at hcap2
 obtain ⟨R, hR⟩ : ∃ R, R = sameCs l k := ⟨_, rfl⟩
 rw [← hR]
 have HR := Lib.hid hR
 have HN := Lib.hid hn
 have HM := Lib.hid hm
 have H1 := Lib.hid h
 have H2 := Lib.hid h2
 have HLX := Lib.hid hlx
 clear h h2 hn hm hR hlx
 by_cases hne : n = m
 ·
  subst hne
  have t0 : ((n : Int) != (n : Int)) = false := by simp
  go_enter Tryz.func12, Tryz.ntmps12
  go_wp2_with fail
  go_loopw [5] (fun z wr => ∃ i : Nat, i ≤ n ∧ z = .int .i64 i ∧ (∀ j, j < i → (cat l j).kk = (cat k j).kk) ∧ Below w.heap.size w wr) (fun z _ => n - (intOf z).toNat)
  case atStart => exact ⟨0, Nat.zero_le _, rfl, fun j hj => by omega, Below.refl _ _⟩
  case round =>
   obtain ⟨i, hin, rfl, hall, hb⟩ := hrel
   have HA := Lib.hid hall
   have HB := Lib.hid hb
   clear hall
   by_cases hlt : i < n
   ·
    have i1 : (i : Int) < (n : Int) := by omega
    have i2 : (0 : Int) ≤ (i : Int) := by omega
    have t1 : decide ((i : Int) < (n : Int)) = true := decide_eq_true i1
    obtain ⟨b, off, rfl, hbl, hcl⟩ := (H1.out.below hb).at_ (by rw [HN.out]; omega)
    obtain ⟨bq, of2, rfl, hbl2, hcl2⟩ := (H2.out.below hb).at_ (by rw [HM.out]; omega)
    have hcx := hcl i (by rw [HN.out]; exact hlt)
    have hcy := hcl2 i (by rw [HM.out]; exact hlt)
    have hml := cat_mem (l := l) (i := i) (by rw [HN.out]; exact hlt)
    have hux := (H1.out.below hb).1 _ hml
    have huy := (H2.out.below hb).1 _ (cat_mem (l := k) (i := i) (by rw [HM.out]; exact hlt))
    have hlx := HLX.out _ hml
    obtain ⟨x, hx⟩ : ∃ x, x = cat l i := ⟨_, rfl⟩
    obtain ⟨y, hy⟩ : ∃ y, y = cat k i := ⟨_, rfl⟩
    rw [← hx] at hcx hux hlx
    rw [← hy] at hcy huy
    obtain ⟨hl1, hl2⟩ := hlx
    have p1 := hux.1.cap
    have p2_ := hux.2.1.cap
    have p3 := huy.1.cap
    have p4 := huy.2.1.cap
    have HCX := Lib.hid hcx
    have HCY := Lib.hid hcy
    have HUX := Lib.hid hux
    have HUY := Lib.hid huy
    have HBL := Lib.hid (And.intro hbl hbl2)
    have HXX := Lib.hid hx
    have HYY := Lib.hid hy
    have HLT := Lib.hid hlt
    obtain ⟨sX, hsx⟩ : ∃ r, r = decide (x.sx = y.sx ∧ x.xs = y.xs) := ⟨_, rfl⟩
    obtain ⟨sY, hsy⟩ : ∃ r, r = decide (x.sy = y.sy ∧ x.ys = y.ys) := ⟨_, rfl⟩
    have HSx := Lib.hid hsx
    have HSy := Lib.hid hsy
    clear hcl hcl2 hcx hcy hux huy hbl hbl2 hx hy hml hsx hsy hb
    by_cases hst : x.st = y.st
    ·
     have t2 : ((x.st : Int) != (y.st : Int)) = false := by rw [hst]; simp
     have HST := Lib.hid hst
     clear hst
     cases sX with
     | false =>
      go_wp2_with fail
      -- case B
      refine wp_region_noPanic ?_
      refine wp_region_held (S := fun w' => (w'.cell? ⟨b, off + i * 5, none⟩ = some (.bool x.sx) ∧ w'.cell? ⟨b, off + i * 5 + 1, none⟩ = some (.slice x.ax x.xs.length x.cx) ∧ w'.cell? ⟨b, off + i * 5 + 2, none⟩ = some (.bool x.sy) ∧ w'.cell? ⟨b, off + i * 5 + 3, none⟩ = some (.slice x.ay x.ys.length x.cy) ∧ w'.cell? ⟨b, off + i * 5 + 4, none⟩ = some (.int .u8 x.st)) ∧ (w'.cell? ⟨bq, of2 + i * 5, none⟩ = some (.bool y.sx) ∧ w'.cell? ⟨bq, of2 + i * 5 + 1, none⟩ = some (.slice y.ax y.xs.length y.cx) ∧ w'.cell? ⟨bq, of2 + i * 5 + 2, none⟩ = some (.bool y.sy) ∧ w'.cell? ⟨bq, of2 + i * 5 + 3, none⟩ = some (.slice y.ay y.ys.length y.cy) ∧ w'.cell? ⟨bq, of2 + i * 5 + 4, none⟩ = some (.int .u8 y.st))) (by kernel_rfl) ?_
      obtain ⟨W0, hW0⟩ : ∃ W0 : World, W0 = wr.drew := ⟨_, rfl⟩
      have B0 := Lib.hid (show Below wr.heap.size wr W0 by rw [hW0]; exact below_drewN (Below.refl _ wr) 1)
      have hS0 := And.intro (HCX.out.below (B0.out.block b HBL.out.1)) (HCY.out.below (B0.out.block bq HBL.out.2))
      change wpAnyH _ _ _ _ _ _ _ _ wr.drew
      rw [← hW0]
      clear hW0
      refine wpAnyH_take (i := 0) (v := ?_) rfl (by kernel_rfl) (by kernel_rfl) (by kernel_rfl) (fun _ _ _ h => h) (Or.inl ⟨by rfl, ?_⟩) hS0 ?_
      rotate_left
      ·
       rintro w' ⟨⟨s1_, s2_, s3_, s4_, s5_⟩, r1_, r2_, r3_, r4_, r5_⟩
       go_simp
       first | done | with_reducible rfl | rfl
      simp only [Act.put, LA]
      refine wpAnyH_take (i := 1) (v := ?_) rfl (by kernel_rfl) (by kernel_rfl) (by kernel_rfl) (fun _ _ _ h => h) (Or.inl ⟨by rfl, ?_⟩) hS0 ?_
      rotate_left
      ·
       rintro w' ⟨⟨s1_, s2_, s3_, s4_, s5_⟩, r1_, r2_, r3_, r4_, r5_⟩
       go_simp
       first | done | with_reducible rfl | rfl
      simp only [Act.put, LA]
      refine wpAnyH_take (i := 2) (v := ?_) rfl (by kernel_rfl) (by kernel_rfl) (by kernel_rfl) (fun _ _ _ h => h) (Or.inl ⟨by rfl, ?_⟩) hS0 ?_
      rotate_left
      ·
       rintro w' ⟨⟨s1_, s2_, s3_, s4_, s5_⟩, r1_, r2_, r3_, r4_, r5_⟩
       go_simp
       first | done | with_reducible rfl | rfl
      simp only [Act.put, LA]
      refine wpAnyH_take (i := 3) (v := ?_) rfl (by kernel_rfl) (by kernel_rfl) (by kernel_rfl) (fun _ _ _ h => h) (Or.inl ⟨by rfl, ?_⟩) hS0 ?_
      rotate_left
      ·
       rintro w' ⟨⟨s1_, s2_, s3_, s4_, s5_⟩, r1_, r2_, r3_, r4_, r5_⟩
       go_simp
       first | done | with_reducible rfl | rfl
      simp only [Act.put, LA]
      refine wpAnyH_take (i := 4) (v := ?_) rfl (by kernel_rfl) (by kernel_rfl) (by kernel_rfl) (fun _ _ _ h => h) (Or.inl ⟨by rfl, ?_⟩) hS0 ?_
      rotate_left
      ·
       rintro w' ⟨⟨s1_, s2_, s3_, s4_, s5_⟩, r1_, r2_, r3_, r4_, r5_⟩
       go_simp
       first | done | with_reducible rfl | rfl
      simp only [Act.put, LA]
      refine wpAnyH_take (i := 5) (v := ?_) rfl (by kernel_rfl) (by kernel_rfl) (by kernel_rfl) (fun _ _ _ h => h) (Or.inl ⟨by rfl, ?_⟩) hS0 ?_
      rotate_left
      ·
       rintro w' ⟨⟨s1_, s2_, s3_, s4_, s5_⟩, r1_, r2_, r3_, r4_, r5_⟩
       go_simp
       first | done | with_reducible rfl | rfl
      simp only [Act.put, LA]
      refine wpAnyH_take (i := 6) (v := ?_) rfl (by kernel_rfl) (by kernel_rfl) (by kernel_rfl) (fun _ _ _ h => h) (Or.inl ⟨by rfl, ?_⟩) hS0 ?_
      rotate_left
      ·
       rintro w' ⟨⟨s1_, s2_, s3_, s4_, s5_⟩, r1_, r2_, r3_, r4_, r5_⟩
       go_simp
       first | done | with_reducible rfl | rfl
      simp only [Act.put, LA]
      refine wpAnyH_take (i := 7) (v := ?_) rfl (by kernel_rfl) (by kernel_rfl) (by kernel_rfl) (fun _ _ _ h => h) (Or.inl ⟨by rfl, ?_⟩) hS0 ?_
      rotate_left
      ·
       rintro w' ⟨⟨s1_, s2_, s3_, s4_, s5_⟩, r1_, r2_, r3_, r4_, r5_⟩
       go_simp
       first | done | with_reducible rfl | rfl
      simp only [Act.put, LA]
      refine wpAnyH_take (i := 8) (v := ?_) rfl (by kernel_rfl) (by kernel_rfl) (by kernel_rfl) (fun _ _ _ h => h) (Or.inl ⟨by rfl, ?_⟩) hS0 ?_
      rotate_left
      ·
       rintro w' ⟨⟨s1_, s2_, s3_, s4_, s5_⟩, r1_, r2_, r3_, r4_, r5_⟩
       go_simp
       first | done | with_reducible rfl | rfl
      simp only [Act.put, LA]
      refine wpAnyH_take (i := 9) (v := ?_) rfl (by kernel_rfl) (by kernel_rfl) (by kernel_rfl) (fun _ _ _ h => h) (Or.inl ⟨by rfl, ?_⟩) hS0 ?_
      rotate_left
      ·
       rintro w' ⟨⟨s1_, s2_, s3_, s4_, s5_⟩, r1_, r2_, r3_, r4_, r5_⟩
       go_simp
       first | done | with_reducible rfl | rfl
      simp only [Act.put, LA]
      refine wpAnyH_take (i := 10) (v := ?_) rfl (by kernel_rfl) (by kernel_rfl) (by kernel_rfl) (fun _ _ _ h => h) (Or.inl ⟨by rfl, ?_⟩) hS0 ?_
      rotate_left
      ·
       rintro w' ⟨⟨s1_, s2_, s3_, s4_, s5_⟩, r1_, r2_, r3_, r4_, r5_⟩
       go_simp
       first | done | with_reducible rfl | rfl
      simp only [Act.put, LA]
      refine wpAnyH_take (i := 11) (v := ?_) rfl (by kernel_rfl) (by kernel_rfl) (by kernel_rfl) (fun _ _ _ h => h) (Or.inl ⟨by rfl, ?_⟩) hS0 ?_
      rotate_left
      ·
       rintro w' ⟨⟨s1_, s2_, s3_, s4_, s5_⟩, r1_, r2_, r3_, r4_, r5_⟩
       go_simp
       first | done | with_reducible rfl | rfl
      simp only [Act.put, LA]
      refine wpAnyH_take (i := 12) (v := ?_) rfl (by kernel_rfl) (by kernel_rfl) (by kernel_rfl) (fun _ _ _ h => h) (Or.inl ⟨by rfl, ?_⟩) hS0 ?_
      rotate_left
      ·
       rintro w' ⟨⟨s1_, s2_, s3_, s4_, s5_⟩, r1_, r2_, r3_, r4_, r5_⟩
       go_simp
       first | done | with_reducible rfl | rfl
      simp only [Act.put, LA]
      refine wpAnyH_take (i := 13) (v := ?_) rfl (by kernel_rfl) (by kernel_rfl) (by kernel_rfl) (fun _ _ _ h => h) (Or.inl ⟨by rfl, ?_⟩) hS0 ?_
      rotate_left
      ·
       rintro w' ⟨⟨s1_, s2_, s3_, s4_, s5_⟩, r1_, r2_, r3_, r4_, r5_⟩
       go_simp
       first | done | with_reducible rfl | rfl
      simp only [Act.put, LA]
      refine wpAnyH_take (i := 14) (v := ?_) rfl (by kernel_rfl) (by kernel_rfl) (by kernel_rfl) (fun _ _ _ h => h) (Or.inl ⟨by rfl, ?_⟩) hS0 ?_
      rotate_left
      ·
       rintro w' ⟨⟨s1_, s2_, s3_, s4_, s5_⟩, r1_, r2_, r3_, r4_, r5_⟩
       go_simp
       first | done | with_reducible rfl | rfl
      simp only [Act.put, LA]
      refine wpAnyH_take (i := 15) (v := ?_) rfl (by kernel_rfl) (by kernel_rfl) (by kernel_rfl) (fun _ _ _ h => h) (Or.inl ⟨by rfl, ?_⟩) hS0 ?_
      rotate_left
      ·
       rintro w' ⟨⟨s1_, s2_, s3_, s4_, s5_⟩, r1_, r2_, r3_, r4_, r5_⟩
       go_simp
       first | done | with_reducible rfl | rfl
      simp only [Act.put, LA]
      refine wpAnyH_take (i := 16) (v := ?_) rfl (by kernel_rfl) (by kernel_rfl) (by kernel_rfl) (fun _ _ _ h => h) (Or.inl ⟨by rfl, ?_⟩) hS0 ?_
      rotate_left
      ·
       rintro w' ⟨⟨s1_, s2_, s3_, s4_, s5_⟩, r1_, r2_, r3_, r4_, r5_⟩
       go_simp
       first | done | with_reducible rfl | rfl
      simp only [Act.put, LA]
      refine wpAnyH_take (i := 17) (v := ?_) rfl (by kernel_rfl) (by kernel_rfl) (by kernel_rfl) (fun _ _ _ h => h) (Or.inl ⟨by rfl, ?_⟩) hS0 ?_
      rotate_left
      ·
       rintro w' ⟨⟨s1_, s2_, s3_, s4_, s5_⟩, r1_, r2_, r3_, r4_, r5_⟩
       go_simp
       first | done | with_reducible rfl | rfl
      simp only [Act.put, LA]
      refine wpAnyH_take (i := 18) (v := ?_) rfl (by kernel_rfl) (by kernel_rfl) (by kernel_rfl) (fun _ _ _ h => h) (Or.inl ⟨by rfl, ?_⟩) hS0 ?_
      rotate_left
      ·
       rintro w' ⟨⟨s1_, s2_, s3_, s4_, s5_⟩, r1_, r2_, r3_, r4_, r5_⟩
       go_simp
       first | done | with_reducible rfl | rfl
      simp only [Act.put, LA]
      refine wpAnyH_take (i := 19) (v := ?_) rfl (by kernel_rfl) (by kernel_rfl) (by kernel_rfl) (fun _ _ _ h => h) (Or.inl ⟨by rfl, ?_⟩) hS0 ?_
      rotate_left
      ·
       rintro w' ⟨⟨s1_, s2_, s3_, s4_, s5_⟩, r1_, r2_, r3_, r4_, r5_⟩
       go_simp
       first | done | with_reducible rfl | rfl
      simp only [Act.put, LA]
      refine wpAnyH_take (i := 20) (v := ?_) rfl (by kernel_rfl) (by kernel_rfl) (by kernel_rfl) (fun _ _ _ h => h) (Or.inl ⟨by rfl, ?_⟩) hS0 ?_
      rotate_left
      ·
       rintro w' ⟨⟨s1_, s2_, s3_, s4_, s5_⟩, r1_, r2_, r3_, r4_, r5_⟩
       go_simp
       first | done | with_reducible rfl | rfl
      simp only [Act.put, LA]
      refine wpAnyH_take (i := 21) (v := ?_) rfl (by kernel_rfl) (by kernel_rfl) (by kernel_rfl) (fun _ _ _ h => h) (Or.inl ⟨by rfl, ?_⟩) hS0 ?_
      rotate_left
      ·
       rintro w' ⟨⟨s1_, s2_, s3_, s4_, s5_⟩, r1_, r2_, r3_, r4_, r5_⟩
       go_simp
       first | done | with_reducible rfl | rfl
      simp only [Act.put, LA]
      refine wpAnyH_ready (rs := [22]) (by kernel_rfl) (by simp) (AllReadyH.cons rfl (fun K hK => ?_) AllReadyH.nil)
      go_simp
      refine (rbsame_any x.sx y.sx _ _ _ _ x.xs y.xs W0 (HUX.out.below B0.out).1 (HUY.out.below B0.out).1 hl1).mono ?_
      rintro e W1 ⟨rfl, b1⟩
      rw [← HSx.out]
      dsimp only
      have B1 := Lib.hid (B0.out.trans (b1.mono B0.out.size))
      have hS1 := And.intro (HCX.out.below (B1.out.block b HBL.out.1)) (HCY.out.below (B1.out.block bq HBL.out.2))
      refine hK.out _ _ hS1 (fun _ => ?_)
      clear hK K b1
      refine wpAnyH_take (i := 23) (v := ?_) rfl (by kernel_rfl) (by kernel_rfl) (by kernel_rfl) (fun _ _ _ h => h) (Or.inl ⟨by rfl, ?_⟩) hS1 ?_
      rotate_left
      ·
       rintro w' ⟨⟨s1_, s2_, s3_, s4_, s5_⟩, r1_, r2_, r3_, r4_, r5_⟩
       go_simp
       first | done | with_reducible rfl | rfl
      simp only [Act.put, LA]
      refine wpAnyH_take (i := 24) (v := ?_) rfl (by kernel_rfl) (by kernel_rfl) (by kernel_rfl) (fun _ _ _ h => h) (Or.inl ⟨by rfl, ?_⟩) hS1 ?_
      rotate_left
      ·
       rintro w' ⟨⟨s1_, s2_, s3_, s4_, s5_⟩, r1_, r2_, r3_, r4_, r5_⟩
       go_simp
       first | done | with_reducible rfl | rfl
      simp only [Act.put, LA]
      refine wpAnyH_take (i := 25) (v := ?_) rfl (by kernel_rfl) (by kernel_rfl) (by kernel_rfl) (fun _ _ _ h => h) (Or.inl ⟨by rfl, ?_⟩) hS1 ?_
      rotate_left
      ·
       rintro w' ⟨⟨s1_, s2_, s3_, s4_, s5_⟩, r1_, r2_, r3_, r4_, r5_⟩
       go_simp
       first | done | with_reducible rfl | rfl
      simp only [Act.put, LA]
      refine wpAnyH_take (i := 26) (v := undef) rfl (by kernel_rfl) (by kernel_rfl) (by kernel_rfl) (fun _ _ _ h => h) (Or.inr ⟨by rfl, rfl⟩) hS1 ?_
      simp only [Act.put, LA]
      refine wpAnyH_take (i := 27) (v := undef) rfl (by kernel_rfl) (by kernel_rfl) (by kernel_rfl) (fun _ _ _ h => h) (Or.inr ⟨by rfl, rfl⟩) hS1 ?_
      simp only [Act.put, LA]
      refine wpAnyH_take (i := 28) (v := undef) rfl (by kernel_rfl) (by kernel_rfl) (by kernel_rfl) (fun _ _ _ h => h) (Or.inr ⟨by rfl, rfl⟩) hS1 ?_
      simp only [Act.put, LA]
      refine wpAnyH_take (i := 29) (v := undef) rfl (by kernel_rfl) (by kernel_rfl) (by kernel_rfl) (fun _ _ _ h => h) (Or.inr ⟨by rfl, rfl⟩) hS1 ?_
      simp only [Act.put, LA]
      refine wpAnyH_take (i := 30) (v := undef) rfl (by kernel_rfl) (by kernel_rfl) (by kernel_rfl) (fun _ _ _ h => h) (Or.inr ⟨by rfl, rfl⟩) hS1 ?_
      simp only [Act.put, LA]
      refine wpAnyH_take (i := 31) (v := undef) rfl (by kernel_rfl) (by kernel_rfl) (by kernel_rfl) (fun _ _ _ h => h) (Or.inr ⟨by rfl, rfl⟩) hS1 ?_
      simp only [Act.put, LA]
      refine wpAnyH_take (i := 32) (v := undef) rfl (by kernel_rfl) (by kernel_rfl) (by kernel_rfl) (fun _ _ _ h => h) (Or.inr ⟨by rfl, rfl⟩) hS1 ?_
      simp only [Act.put, LA]
      refine wpAnyH_take (i := 33) (v := undef) rfl (by kernel_rfl) (by kernel_rfl) (by kernel_rfl) (fun _ _ _ h => h) (Or.inr ⟨by rfl, rfl⟩) hS1 ?_
      simp only [Act.put, LA]
      refine wpAnyH_take (i := 34) (v := undef) rfl (by kernel_rfl) (by kernel_rfl) (by kernel_rfl) (fun _ _ _ h => h) (Or.inr ⟨by rfl, rfl⟩) hS1 ?_
      simp only [Act.put, LA]
      refine wpAnyH_take (i := 35) (v := undef) rfl (by kernel_rfl) (by kernel_rfl) (by kernel_rfl) (fun _ _ _ h => h) (Or.inr ⟨by rfl, rfl⟩) hS1 ?_
      simp only [Act.put, LA]
      refine wpAnyH_take (i := 36) (v := undef) rfl (by kernel_rfl) (by kernel_rfl) (by kernel_rfl) (fun _ _ _ h => h) (Or.inr ⟨by rfl, rfl⟩) hS1 ?_
      simp only [Act.put, LA]
      refine wpAnyH_take (i := 37) (v := undef) rfl (by kernel_rfl) (by kernel_rfl) (by kernel_rfl) (fun _ _ _ h => h) (Or.inr ⟨by rfl, rfl⟩) hS1 ?_
      simp only [Act.put, LA]
      refine wpAnyH_take (i := 38) (v := ?_) rfl (by kernel_rfl) (by kernel_rfl) (by kernel_rfl) (fun _ _ _ h => h) (Or.inl ⟨by rfl, ?_⟩) hS1 ?_
      rotate_left
      ·
       rintro w' ⟨⟨s1_, s2_, s3_, s4_, s5_⟩, r1_, r2_, r3_, r4_, r5_⟩
       go_simp
       first | done | with_reducible rfl | rfl
      simp only [Act.put, LA]
      refine wpAnyH_done (by kernel_rfl) ?_ _
      refine NoPanic.normal ?_
      -- end of case B
      go_wp2_with fail
      go_ret
      refine ⟨?_, HB.out.trans (B1.out.mono HB.out.size)⟩
      rw [HR.out, same_no (i := i) (by rw [HN.out]; exact HLT.out) (by rw [HM.out]; exact HLT.out) (fun e => by
       rw [← HXX.out, ← HYY.out] at e
       have h1 := congrArg Prod.fst e
       exact of_decide_eq_false HSx.out.symm ⟨congrArg Prod.fst h1, congrArg Prod.snd h1⟩)]
      rfl
     | true =>
      cases sY with
      | false =>
       go_wp2_with fail
       -- case D
       refine wp_region_noPanic ?_
       refine wp_region_held (S := fun w' => (w'.cell? ⟨b, off + i * 5, none⟩ = some (.bool x.sx) ∧ w'.cell? ⟨b, off + i * 5 + 1, none⟩ = some (.slice x.ax x.xs.length x.cx) ∧ w'.cell? ⟨b, off + i * 5 + 2, none⟩ = some (.bool x.sy) ∧ w'.cell? ⟨b, off + i * 5 + 3, none⟩ = some (.slice x.ay x.ys.length x.cy) ∧ w'.cell? ⟨b, off + i * 5 + 4, none⟩ = some (.int .u8 x.st)) ∧ (w'.cell? ⟨bq, of2 + i * 5, none⟩ = some (.bool y.sx) ∧ w'.cell? ⟨bq, of2 + i * 5 + 1, none⟩ = some (.slice y.ax y.xs.length y.cx) ∧ w'.cell? ⟨bq, of2 + i * 5 + 2, none⟩ = some (.bool y.sy) ∧ w'.cell? ⟨bq, of2 + i * 5 + 3, none⟩ = some (.slice y.ay y.ys.length y.cy) ∧ w'.cell? ⟨bq, of2 + i * 5 + 4, none⟩ = some (.int .u8 y.st))) (by kernel_rfl) ?_
       obtain ⟨W0, hW0⟩ : ∃ W0 : World, W0 = wr.drew := ⟨_, rfl⟩
       have B0 := Lib.hid (show Below wr.heap.size wr W0 by rw [hW0]; exact below_drewN (Below.refl _ wr) 1)
       have hS0 := And.intro (HCX.out.below (B0.out.block b HBL.out.1)) (HCY.out.below (B0.out.block bq HBL.out.2))
       change wpAnyH _ _ _ _ _ _ _ _ wr.drew
       rw [← hW0]
       clear hW0
       refine wpAnyH_take (i := 0) (v := ?_) rfl (by kernel_rfl) (by kernel_rfl) (by kernel_rfl) (fun _ _ _ h => h) (Or.inl ⟨by rfl, ?_⟩) hS0 ?_
       rotate_left
       ·
        rintro w' ⟨⟨s1_, s2_, s3_, s4_, s5_⟩, r1_, r2_, r3_, r4_, r5_⟩
        go_simp
        first | done | with_reducible rfl | rfl
       simp only [Act.put, LA]
       refine wpAnyH_take (i := 1) (v := ?_) rfl (by kernel_rfl) (by kernel_rfl) (by kernel_rfl) (fun _ _ _ h => h) (Or.inl ⟨by rfl, ?_⟩) hS0 ?_
       rotate_left
       ·
        rintro w' ⟨⟨s1_, s2_, s3_, s4_, s5_⟩, r1_, r2_, r3_, r4_, r5_⟩
        go_simp
        first | done | with_reducible rfl | rfl
       simp only [Act.put, LA]
       refine wpAnyH_take (i := 2) (v := ?_) rfl (by kernel_rfl) (by kernel_rfl) (by kernel_rfl) (fun _ _ _ h => h) (Or.inl ⟨by rfl, ?_⟩) hS0 ?_
       rotate_left
       ·
        rintro w' ⟨⟨s1_, s2_, s3_, s4_, s5_⟩, r1_, r2_, r3_, r4_, r5_⟩
        go_simp
        first | done | with_reducible rfl | rfl
       simp only [Act.put, LA]
       refine wpAnyH_take (i := 3) (v := ?_) rfl (by kernel_rfl) (by kernel_rfl) (by kernel_rfl) (fun _ _ _ h => h) (Or.inl ⟨by rfl, ?_⟩) hS0 ?_
       rotate_left
       ·
        rintro w' ⟨⟨s1_, s2_, s3_, s4_, s5_⟩, r1_, r2_, r3_, r4_, r5_⟩
        go_simp
        first | done | with_reducible rfl | rfl
       simp only [Act.put, LA]
       refine wpAnyH_take (i := 4) (v := ?_) rfl (by kernel_rfl) (by kernel_rfl) (by kernel_rfl) (fun _ _ _ h => h) (Or.inl ⟨by rfl, ?_⟩) hS0 ?_
       rotate_left
       ·
        rintro w' ⟨⟨s1_, s2_, s3_, s4_, s5_⟩, r1_, r2_, r3_, r4_, r5_⟩
        go_simp
        first | done | with_reducible rfl | rfl
       simp only [Act.put, LA]
       refine wpAnyH_take (i := 5) (v := ?_) rfl (by kernel_rfl) (by kernel_rfl) (by kernel_rfl) (fun _ _ _ h => h) (Or.inl ⟨by rfl, ?_⟩) hS0 ?_
       rotate_left
       ·
        rintro w' ⟨⟨s1_, s2_, s3_, s4_, s5_⟩, r1_, r2_, r3_, r4_, r5_⟩
        go_simp
        first | done | with_reducible rfl | rfl
       simp only [Act.put, LA]
       refine wpAnyH_take (i := 6) (v := ?_) rfl (by kernel_rfl) (by kernel_rfl) (by kernel_rfl) (fun _ _ _ h => h) (Or.inl ⟨by rfl, ?_⟩) hS0 ?_
       rotate_left
       ·
        rintro w' ⟨⟨s1_, s2_, s3_, s4_, s5_⟩, r1_, r2_, r3_, r4_, r5_⟩
        go_simp
        first | done | with_reducible rfl | rfl
       simp only [Act.put, LA]
       refine wpAnyH_take (i := 7) (v := ?_) rfl (by kernel_rfl) (by kernel_rfl) (by kernel_rfl) (fun _ _ _ h => h) (Or.inl ⟨by rfl, ?_⟩) hS0 ?_
       rotate_left
       ·
        rintro w' ⟨⟨s1_, s2_, s3_, s4_, s5_⟩, r1_, r2_, r3_, r4_, r5_⟩
        go_simp
        first | done | with_reducible rfl | rfl
       simp only [Act.put, LA]
       refine wpAnyH_take (i := 8) (v := ?_) rfl (by kernel_rfl) (by kernel_rfl) (by kernel_rfl) (fun _ _ _ h => h) (Or.inl ⟨by rfl, ?_⟩) hS0 ?_
       rotate_left
       ·
        rintro w' ⟨⟨s1_, s2_, s3_, s4_, s5_⟩, r1_, r2_, r3_, r4_, r5_⟩
        go_simp
        first | done | with_reducible rfl | rfl
       simp only [Act.put, LA]
       refine wpAnyH_take (i := 9) (v := ?_) rfl (by kernel_rfl) (by kernel_rfl) (by kernel_rfl) (fun _ _ _ h => h) (Or.inl ⟨by rfl, ?_⟩) hS0 ?_
       rotate_left
       ·
        rintro w' ⟨⟨s1_, s2_, s3_, s4_, s5_⟩, r1_, r2_, r3_, r4_, r5_⟩
        go_simp
        first | done | with_reducible rfl | rfl
       simp only [Act.put, LA]
       refine wpAnyH_take (i := 10) (v := ?_) rfl (by kernel_rfl) (by kernel_rfl) (by kernel_rfl) (fun _ _ _ h => h) (Or.inl ⟨by rfl, ?_⟩) hS0 ?_
       rotate_left
       ·
        rintro w' ⟨⟨s1_, s2_, s3_, s4_, s5_⟩, r1_, r2_, r3_, r4_, r5_⟩
        go_simp
        first | done | with_reducible rfl | rfl
       simp only [Act.put, LA]
       refine wpAnyH_take (i := 11) (v := ?_) rfl (by kernel_rfl) (by kernel_rfl) (by kernel_rfl) (fun _ _ _ h => h) (Or.inl ⟨by rfl, ?_⟩) hS0 ?_
       rotate_left
       ·
        rintro w' ⟨⟨s1_, s2_, s3_, s4_, s5_⟩, r1_, r2_, r3_, r4_, r5_⟩
        go_simp
        first | done | with_reducible rfl | rfl
       simp only [Act.put, LA]
       refine wpAnyH_take (i := 12) (v := ?_) rfl (by kernel_rfl) (by kernel_rfl) (by kernel_rfl) (fun _ _ _ h => h) (Or.inl ⟨by rfl, ?_⟩) hS0 ?_
       rotate_left
       ·
        rintro w' ⟨⟨s1_, s2_, s3_, s4_, s5_⟩, r1_, r2_, r3_, r4_, r5_⟩
        go_simp
        first | done | with_reducible rfl | rfl
       simp only [Act.put, LA]
       refine wpAnyH_take (i := 13) (v := ?_) rfl (by kernel_rfl) (by kernel_rfl) (by kernel_rfl) (fun _ _ _ h => h) (Or.inl ⟨by rfl, ?_⟩) hS0 ?_
       rotate_left
       ·
        rintro w' ⟨⟨s1_, s2_, s3_, s4_, s5_⟩, r1_, r2_, r3_, r4_, r5_⟩
        go_simp
        first | done | with_reducible rfl | rfl
       simp only [Act.put, LA]
       refine wpAnyH_take (i := 14) (v := ?_) rfl (by kernel_rfl) (by kernel_rfl) (by kernel_rfl) (fun _ _ _ h => h) (Or.inl ⟨by rfl, ?_⟩) hS0 ?_
       rotate_left
       ·
        rintro w' ⟨⟨s1_, s2_, s3_, s4_, s5_⟩, r1_, r2_, r3_, r4_, r5_⟩
        go_simp
        first | done | with_reducible rfl | rfl
       simp only [Act.put, LA]
       refine wpAnyH_take (i := 15) (v := ?_) rfl (by kernel_rfl) (by kernel_rfl) (by kernel_rfl) (fun _ _ _ h => h) (Or.inl ⟨by rfl, ?_⟩) hS0 ?_
       rotate_left
       ·
        rintro w' ⟨⟨s1_, s2_, s3_, s4_, s5_⟩, r1_, r2_, r3_, r4_, r5_⟩
        go_simp
        first | done | with_reducible rfl | rfl
       simp only [Act.put, LA]
       refine wpAnyH_take (i := 16) (v := ?_) rfl (by kernel_rfl) (by kernel_rfl) (by kernel_rfl) (fun _ _ _ h => h) (Or.inl ⟨by rfl, ?_⟩) hS0 ?_
       rotate_left
       ·
        rintro w' ⟨⟨s1_, s2_, s3_, s4_, s5_⟩, r1_, r2_, r3_, r4_, r5_⟩
        go_simp
        first | done | with_reducible rfl | rfl
       simp only [Act.put, LA]
       refine wpAnyH_take (i := 17) (v := ?_) rfl (by kernel_rfl) (by kernel_rfl) (by kernel_rfl) (fun _ _ _ h => h) (Or.inl ⟨by rfl, ?_⟩) hS0 ?_
       rotate_left
       ·
        rintro w' ⟨⟨s1_, s2_, s3_, s4_, s5_⟩, r1_, r2_, r3_, r4_, r5_⟩
        go_simp
        first | done | with_reducible rfl | rfl
       simp only [Act.put, LA]
       refine wpAnyH_take (i := 18) (v := ?_) rfl (by kernel_rfl) (by kernel_rfl) (by kernel_rfl) (fun _ _ _ h => h) (Or.inl ⟨by rfl, ?_⟩) hS0 ?_
       rotate_left
       ·
        rintro w' ⟨⟨s1_, s2_, s3_, s4_, s5_⟩, r1_, r2_, r3_, r4_, r5_⟩
        go_simp
        first | done | with_reducible rfl | rfl
       simp only [Act.put, LA]
       refine wpAnyH_take (i := 19) (v := ?_) rfl (by kernel_rfl) (by kernel_rfl) (by kernel_rfl) (fun _ _ _ h => h) (Or.inl ⟨by rfl, ?_⟩) hS0 ?_
       rotate_left
       ·
        rintro w' ⟨⟨s1_, s2_, s3_, s4_, s5_⟩, r1_, r2_, r3_, r4_, r5_⟩
        go_simp
        first | done | with_reducible rfl | rfl
       simp only [Act.put, LA]
       refine wpAnyH_take (i := 20) (v := ?_) rfl (by kernel_rfl) (by kernel_rfl) (by kernel_rfl) (fun _ _ _ h => h) (Or.inl ⟨by rfl, ?_⟩) hS0 ?_
       rotate_left
       ·
        rintro w' ⟨⟨s1_, s2_, s3_, s4_, s5_⟩, r1_, r2_, r3_, r4_, r5_⟩
        go_simp
        first | done | with_reducible rfl | rfl
       simp only [Act.put, LA]
       refine wpAnyH_take (i := 21) (v := ?_) rfl (by kernel_rfl) (by kernel_rfl) (by kernel_rfl) (fun _ _ _ h => h) (Or.inl ⟨by rfl, ?_⟩) hS0 ?_
       rotate_left
       ·
        rintro w' ⟨⟨s1_, s2_, s3_, s4_, s5_⟩, r1_, r2_, r3_, r4_, r5_⟩
        go_simp
        first | done | with_reducible rfl | rfl
       simp only [Act.put, LA]
       refine wpAnyH_ready (rs := [22]) (by kernel_rfl) (by simp) (AllReadyH.cons rfl (fun K hK => ?_) AllReadyH.nil)
       go_simp
       refine (rbsame_any x.sx y.sx _ _ _ _ x.xs y.xs W0 (HUX.out.below B0.out).1 (HUY.out.below B0.out).1 hl1).mono ?_
       rintro e W1 ⟨rfl, b1⟩
       rw [← HSx.out]
       dsimp only
       have B1 := Lib.hid (B0.out.trans (b1.mono B0.out.size))
       have hS1 := And.intro (HCX.out.below (B1.out.block b HBL.out.1)) (HCY.out.below (B1.out.block bq HBL.out.2))
       refine hK.out _ _ hS1 (fun _ => ?_)
       clear hK K b1
       refine wpAnyH_take (i := 23) (v := ?_) rfl (by kernel_rfl) (by kernel_rfl) (by kernel_rfl) (fun _ _ _ h => h) (Or.inl ⟨by rfl, ?_⟩) hS1 ?_
       rotate_left
       ·
        rintro w' ⟨⟨s1_, s2_, s3_, s4_, s5_⟩, r1_, r2_, r3_, r4_, r5_⟩
        go_simp
        first | done | with_reducible rfl | rfl
       simp only [Act.put, LA]
       refine wpAnyH_take (i := 24) (v := ?_) rfl (by kernel_rfl) (by kernel_rfl) (by kernel_rfl) (fun _ _ _ h => h) (Or.inl ⟨by rfl, ?_⟩) hS1 ?_
       rotate_left
       ·
        rintro w' ⟨⟨s1_, s2_, s3_, s4_, s5_⟩, r1_, r2_, r3_, r4_, r5_⟩
        go_simp
        first | done | with_reducible rfl | rfl
       simp only [Act.put, LA]
       refine wpAnyH_take (i := 25) (v := ?_) rfl (by kernel_rfl) (by kernel_rfl) (by kernel_rfl) (fun _ _ _ h => h) (Or.inl ⟨by rfl, ?_⟩) hS1 ?_
       rotate_left
       ·
        rintro w' ⟨⟨s1_, s2_, s3_, s4_, s5_⟩, r1_, r2_, r3_, r4_, r5_⟩
        go_simp
        first | done | with_reducible rfl | rfl
       simp only [Act.put, LA]
       refine wpAnyH_take (i := 26) (v := ?_) rfl (by kernel_rfl) (by kernel_rfl) (by kernel_rfl) (fun _ _ _ h => h) (Or.inl ⟨by rfl, ?_⟩) hS1 ?_
       rotate_left
       ·
        rintro w' ⟨⟨s1_, s2_, s3_, s4_, s5_⟩, r1_, r2_, r3_, r4_, r5_⟩
        go_simp
        first | done | with_reducible rfl | rfl
       simp only [Act.put, LA]
       refine wpAnyH_take (i := 27) (v := ?_) rfl (by kernel_rfl) (by kernel_rfl) (by kernel_rfl) (fun _ _ _ h => h) (Or.inl ⟨by rfl, ?_⟩) hS1 ?_
       rotate_left
       ·
        rintro w' ⟨⟨s1_, s2_, s3_, s4_, s5_⟩, r1_, r2_, r3_, r4_, r5_⟩
        go_simp
        first | done | with_reducible rfl | rfl
       simp only [Act.put, LA]
       refine wpAnyH_take (i := 28) (v := ?_) rfl (by kernel_rfl) (by kernel_rfl) (by kernel_rfl) (fun _ _ _ h => h) (Or.inl ⟨by rfl, ?_⟩) hS1 ?_
       rotate_left
       ·
        rintro w' ⟨⟨s1_, s2_, s3_, s4_, s5_⟩, r1_, r2_, r3_, r4_, r5_⟩
        go_simp
        first | done | with_reducible rfl | rfl
       simp only [Act.put, LA]
       refine wpAnyH_take (i := 29) (v := ?_) rfl (by kernel_rfl) (by kernel_rfl) (by kernel_rfl) (fun _ _ _ h => h) (Or.inl ⟨by rfl, ?_⟩) hS1 ?_
       rotate_left
       ·
        rintro w' ⟨⟨s1_, s2_, s3_, s4_, s5_⟩, r1_, r2_, r3_, r4_, r5_⟩
        go_simp
        first | done | with_reducible rfl | rfl
       simp only [Act.put, LA]
       refine wpAnyH_take (i := 30) (v := ?_) rfl (by kernel_rfl) (by kernel_rfl) (by kernel_rfl) (fun _ _ _ h => h) (Or.inl ⟨by rfl, ?_⟩) hS1 ?_
       rotate_left
       ·
        rintro w' ⟨⟨s1_, s2_, s3_, s4_, s5_⟩, r1_, r2_, r3_, r4_, r5_⟩
        go_simp
        first | done | with_reducible rfl | rfl
       simp only [Act.put, LA]
       refine wpAnyH_take (i := 31) (v := ?_) rfl (by kernel_rfl) (by kernel_rfl) (by kernel_rfl) (fun _ _ _ h => h) (Or.inl ⟨by rfl, ?_⟩) hS1 ?_
       rotate_left
       ·
        rintro w' ⟨⟨s1_, s2_, s3_, s4_, s5_⟩, r1_, r2_, r3_, r4_, r5_⟩
        go_simp
        first | done | with_reducible rfl | rfl
       simp only [Act.put, LA]
       refine wpAnyH_take (i := 32) (v := ?_) rfl (by kernel_rfl) (by kernel_rfl) (by kernel_rfl) (fun _ _ _ h => h) (Or.inl ⟨by rfl, ?_⟩) hS1 ?_
       rotate_left
       ·
        rintro w' ⟨⟨s1_, s2_, s3_, s4_, s5_⟩, r1_, r2_, r3_, r4_, r5_⟩
        go_simp
        first | done | with_reducible rfl | rfl
       simp only [Act.put, LA]
       refine wpAnyH_take (i := 33) (v := ?_) rfl (by kernel_rfl) (by kernel_rfl) (by kernel_rfl) (fun _ _ _ h => h) (Or.inl ⟨by rfl, ?_⟩) hS1 ?_
       rotate_left
       ·
        rintro w' ⟨⟨s1_, s2_, s3_, s4_, s5_⟩, r1_, r2_, r3_, r4_, r5_⟩
        go_simp
        first | done | with_reducible rfl | rfl
       simp only [Act.put, LA]
       refine wpAnyH_take (i := 34) (v := ?_) rfl (by kernel_rfl) (by kernel_rfl) (by kernel_rfl) (fun _ _ _ h => h) (Or.inl ⟨by rfl, ?_⟩) hS1 ?_
       rotate_left
       ·
        rintro w' ⟨⟨s1_, s2_, s3_, s4_, s5_⟩, r1_, r2_, r3_, r4_, r5_⟩
        go_simp
        first | done | with_reducible rfl | rfl
       simp only [Act.put, LA]
       refine wpAnyH_take (i := 35) (v := ?_) rfl (by kernel_rfl) (by kernel_rfl) (by kernel_rfl) (fun _ _ _ h => h) (Or.inl ⟨by rfl, ?_⟩) hS1 ?_
       rotate_left
       ·
        rintro w' ⟨⟨s1_, s2_, s3_, s4_, s5_⟩, r1_, r2_, r3_, r4_, r5_⟩
        go_simp
        first | done | with_reducible rfl | rfl
       simp only [Act.put, LA]
       refine wpAnyH_ready (rs := [36]) (by kernel_rfl) (by simp) (AllReadyH.cons rfl (fun K hK => ?_) AllReadyH.nil)
       go_simp
       refine (rbsame_any x.sy y.sy _ _ _ _ x.ys y.ys W1 (HUX.out.below B1.out).2.1 (HUY.out.below B1.out).2.1 hl2).mono ?_
       rintro e W2 ⟨rfl, b2⟩
       rw [← HSy.out]
       dsimp only
       have B2 := Lib.hid (B1.out.trans (b2.mono B1.out.size))
       have hS2 := And.intro (HCX.out.below (B2.out.block b HBL.out.1)) (HCY.out.below (B2.out.block bq HBL.out.2))
       refine hK.out _ _ hS2 (fun _ => ?_)
       clear hK K b2
       refine wpAnyH_take (i := 37) (v := ?_) rfl (by kernel_rfl) (by kernel_rfl) (by kernel_rfl) (fun _ _ _ h => h) (Or.inl ⟨by rfl, ?_⟩) hS2 ?_
       rotate_left
       ·
        rintro w' ⟨⟨s1_, s2_, s3_, s4_, s5_⟩, r1_, r2_, r3_, r4_, r5_⟩
        go_simp
        first | done | with_reducible rfl | rfl
       simp only [Act.put, LA]
       refine wpAnyH_take (i := 38) (v := ?_) rfl (by kernel_rfl) (by kernel_rfl) (by kernel_rfl) (fun _ _ _ h => h) (Or.inl ⟨by rfl, ?_⟩) hS2 ?_
       rotate_left
       ·
        rintro w' ⟨⟨s1_, s2_, s3_, s4_, s5_⟩, r1_, r2_, r3_, r4_, r5_⟩
        go_simp
        first | done | with_reducible rfl | rfl
       simp only [Act.put, LA]
       refine wpAnyH_done (by kernel_rfl) ?_ _
       refine NoPanic.normal ?_
       -- end of case D
       go_wp2_with fail
       go_ret
       refine ⟨?_, HB.out.trans (B2.out.mono HB.out.size)⟩
       rw [HR.out, same_no (i := i) (by rw [HN.out]; exact HLT.out) (by rw [HM.out]; exact HLT.out) (fun e => by
        rw [← HXX.out, ← HYY.out] at e
        have h1 := congrArg (fun q => q.2.1) e
        exact of_decide_eq_false HSy.out.symm ⟨congrArg Prod.fst h1, congrArg Prod.snd h1⟩)]
       rfl
      | true =>
       go_wp2_with fail
       -- case C
       refine wp_region_noPanic ?_
       refine wp_region_held (S := fun w' => (w'.cell? ⟨b, off + i * 5, none⟩ = some (.bool x.sx) ∧ w'.cell? ⟨b, off + i * 5 + 1, none⟩ = some (.slice x.ax x.xs.length x.cx) ∧ w'.cell? ⟨b, off + i * 5 + 2, none⟩ = some (.bool x.sy) ∧ w'.cell? ⟨b, off + i * 5 + 3, none⟩ = some (.slice x.ay x.ys.length x.cy) ∧ w'.cell? ⟨b, off + i * 5 + 4, none⟩ = some (.int .u8 x.st)) ∧ (w'.cell? ⟨bq, of2 + i * 5, none⟩ = some (.bool y.sx) ∧ w'.cell? ⟨bq, of2 + i * 5 + 1, none⟩ = some (.slice y.ax y.xs.length y.cx) ∧ w'.cell? ⟨bq, of2 + i * 5 + 2, none⟩ = some (.bool y.sy) ∧ w'.cell? ⟨bq, of2 + i * 5 + 3, none⟩ = some (.slice y.ay y.ys.length y.cy) ∧ w'.cell? ⟨bq, of2 + i * 5 + 4, none⟩ = some (.int .u8 y.st))) (by kernel_rfl) ?_
       obtain ⟨W0, hW0⟩ : ∃ W0 : World, W0 = wr.drew := ⟨_, rfl⟩
       have B0 := Lib.hid (show Below wr.heap.size wr W0 by rw [hW0]; exact below_drewN (Below.refl _ wr) 1)
       have hS0 := And.intro (HCX.out.below (B0.out.block b HBL.out.1)) (HCY.out.below (B0.out.block bq HBL.out.2))
       change wpAnyH _ _ _ _ _ _ _ _ wr.drew
       rw [← hW0]
       clear hW0
       refine wpAnyH_take (i := 0) (v := ?_) rfl (by kernel_rfl) (by kernel_rfl) (by kernel_rfl) (fun _ _ _ h => h) (Or.inl ⟨by rfl, ?_⟩) hS0 ?_
       rotate_left
       ·
        rintro w' ⟨⟨s1_, s2_, s3_, s4_, s5_⟩, r1_, r2_, r3_, r4_, r5_⟩
        go_simp
        first | done | with_reducible rfl | rfl
       simp only [Act.put, LA]
       refine wpAnyH_take (i := 1) (v := ?_) rfl (by kernel_rfl) (by kernel_rfl) (by kernel_rfl) (fun _ _ _ h => h) (Or.inl ⟨by rfl, ?_⟩) hS0 ?_
       rotate_left
       ·
        rintro w' ⟨⟨s1_, s2_, s3_, s4_, s5_⟩, r1_, r2_, r3_, r4_, r5_⟩
        go_simp
        first | done | with_reducible rfl | rfl
       simp only [Act.put, LA]
       refine wpAnyH_take (i := 2) (v := ?_) rfl (by kernel_rfl) (by kernel_rfl) (by kernel_rfl) (fun _ _ _ h => h) (Or.inl ⟨by rfl, ?_⟩) hS0 ?_
       rotate_left
       ·
        rintro w' ⟨⟨s1_, s2_, s3_, s4_, s5_⟩, r1_, r2_, r3_, r4_, r5_⟩
        go_simp
        first | done | with_reducible rfl | rfl
       simp only [Act.put, LA]
       refine wpAnyH_take (i := 3) (v := ?_) rfl (by kernel_rfl) (by kernel_rfl) (by kernel_rfl) (fun _ _ _ h => h) (Or.inl ⟨by rfl, ?_⟩) hS0 ?_
       rotate_left
       ·
        rintro w' ⟨⟨s1_, s2_, s3_, s4_, s5_⟩, r1_, r2_, r3_, r4_, r5_⟩
        go_simp
        first | done | with_reducible rfl | rfl
       simp only [Act.put, LA]
       refine wpAnyH_take (i := 4) (v := ?_) rfl (by kernel_rfl) (by kernel_rfl) (by kernel_rfl) (fun _ _ _ h => h) (Or.inl ⟨by rfl, ?_⟩) hS0 ?_
       rotate_left
       ·
        rintro w' ⟨⟨s1_, s2_, s3_, s4_, s5_⟩, r1_, r2_, r3_, r4_, r5_⟩
        go_simp
        first | done | with_reducible rfl | rfl
       simp only [Act.put, LA]
       refine wpAnyH_take (i := 5) (v := ?_) rfl (by kernel_rfl) (by kernel_rfl) (by kernel_rfl) (fun _ _ _ h => h) (Or.inl ⟨by rfl, ?_⟩) hS0 ?_
       rotate_left
       ·
        rintro w' ⟨⟨s1_, s2_, s3_, s4_, s5_⟩, r1_, r2_, r3_, r4_, r5_⟩
        go_simp
        first | done | with_reducible rfl | rfl
       simp only [Act.put, LA]
       refine wpAnyH_take (i := 6) (v := ?_) rfl (by kernel_rfl) (by kernel_rfl) (by kernel_rfl) (fun _ _ _ h => h) (Or.inl ⟨by rfl, ?_⟩) hS0 ?_
       rotate_left
       ·
        rintro w' ⟨⟨s1_, s2_, s3_, s4_, s5_⟩, r1_, r2_, r3_, r4_, r5_⟩
        go_simp
        first | done | with_reducible rfl | rfl
       simp only [Act.put, LA]
       refine wpAnyH_take (i := 7) (v := ?_) rfl (by kernel_rfl) (by kernel_rfl) (by kernel_rfl) (fun _ _ _ h => h) (Or.inl ⟨by rfl, ?_⟩) hS0 ?_
       rotate_left
       ·
        rintro w' ⟨⟨s1_, s2_, s3_, s4_, s5_⟩, r1_, r2_, r3_, r4_, r5_⟩
        go_simp
        first | done | with_reducible rfl | rfl
       simp only [Act.put, LA]
       refine wpAnyH_take (i := 8) (v := ?_) rfl (by kernel_rfl) (by kernel_rfl) (by kernel_rfl) (fun _ _ _ h => h) (Or.inl ⟨by rfl, ?_⟩) hS0 ?_
       rotate_left
       ·
        rintro w' ⟨⟨s1_, s2_, s3_, s4_, s5_⟩, r1_, r2_, r3_, r4_, r5_⟩
        go_simp
        first | done | with_reducible rfl | rfl
       simp only [Act.put, LA]
       refine wpAnyH_take (i := 9) (v := ?_) rfl (by kernel_rfl) (by kernel_rfl) (by kernel_rfl) (fun _ _ _ h => h) (Or.inl ⟨by rfl, ?_⟩) hS0 ?_
       rotate_left
       ·
        rintro w' ⟨⟨s1_, s2_, s3_, s4_, s5_⟩, r1_, r2_, r3_, r4_, r5_⟩
        go_simp
        first | done | with_reducible rfl | rfl
       simp only [Act.put, LA]
       refine wpAnyH_take (i := 10) (v := ?_) rfl (by kernel_rfl) (by kernel_rfl) (by kernel_rfl) (fun _ _ _ h => h) (Or.inl ⟨by rfl, ?_⟩) hS0 ?_
       rotate_left
       ·
        rintro w' ⟨⟨s1_, s2_, s3_, s4_, s5_⟩, r1_, r2_, r3_, r4_, r5_⟩
        go_simp
        first | done | with_reducible rfl | rfl
       simp only [Act.put, LA]
       refine wpAnyH_take (i := 11) (v := ?_) rfl (by kernel_rfl) (by kernel_rfl) (by kernel_rfl) (fun _ _ _ h => h) (Or.inl ⟨by rfl, ?_⟩) hS0 ?_
       rotate_left
       ·
        rintro w' ⟨⟨s1_, s2_, s3_, s4_, s5_⟩, r1_, r2_, r3_, r4_, r5_⟩
        go_simp
        first | done | with_reducible rfl | rfl
       simp only [Act.put, LA]
       refine wpAnyH_take (i := 12) (v := ?_) rfl (by kernel_rfl) (by kernel_rfl) (by kernel_rfl) (fun _ _ _ h => h) (Or.inl ⟨by rfl, ?_⟩) hS0 ?_
       rotate_left
       ·
        rintro w' ⟨⟨s1_, s2_, s3_, s4_, s5_⟩, r1_, r2_, r3_, r4_, r5_⟩
        go_simp
        first | done | with_reducible rfl | rfl
       simp only [Act.put, LA]
       refine wpAnyH_take (i := 13) (v := ?_) rfl (by kernel_rfl) (by kernel_rfl) (by kernel_rfl) (fun _ _ _ h => h) (Or.inl ⟨by rfl, ?_⟩) hS0 ?_
       rotate_left
       ·
        rintro w' ⟨⟨s1_, s2_, s3_, s4_, s5_⟩, r1_, r2_, r3_, r4_, r5_⟩
        go_simp
        first | done | with_reducible rfl | rfl
       simp only [Act.put, LA]
       refine wpAnyH_take (i := 14) (v := ?_) rfl (by kernel_rfl) (by kernel_rfl) (by kernel_rfl) (fun _ _ _ h => h) (Or.inl ⟨by rfl, ?_⟩) hS0 ?_
       rotate_left
       ·
        rintro w' ⟨⟨s1_, s2_, s3_, s4_, s5_⟩, r1_, r2_, r3_, r4_, r5_⟩
        go_simp
        first | done | with_reducible rfl | rfl
       simp only [Act.put, LA]
       refine wpAnyH_take (i := 15) (v := ?_) rfl (by kernel_rfl) (by kernel_rfl) (by kernel_rfl) (fun _ _ _ h => h) (Or.inl ⟨by rfl, ?_⟩) hS0 ?_
       rotate_left
       ·
        rintro w' ⟨⟨s1_, s2_, s3_, s4_, s5_⟩, r1_, r2_, r3_, r4_, r5_⟩
        go_simp
        first | done | with_reducible rfl | rfl
       simp only [Act.put, LA]
       refine wpAnyH_take (i := 16) (v := ?_) rfl (by kernel_rfl) (by kernel_rfl) (by kernel_rfl) (fun _ _ _ h => h) (Or.inl ⟨by rfl, ?_⟩) hS0 ?_
       rotate_left
       ·
        rintro w' ⟨⟨s1_, s2_, s3_, s4_, s5_⟩, r1_, r2_, r3_, r4_, r5_⟩
        go_simp
        first | done | with_reducible rfl | rfl
       simp only [Act.put, LA]
       refine wpAnyH_take (i := 17) (v := ?_) rfl (by kernel_rfl) (by kernel_rfl) (by kernel_rfl) (fun _ _ _ h => h) (Or.inl ⟨by rfl, ?_⟩) hS0 ?_
       rotate_left
       ·
        rintro w' ⟨⟨s1_, s2_, s3_, s4_, s5_⟩, r1_, r2_, r3_, r4_, r5_⟩
        go_simp
        first | done | with_reducible rfl | rfl
       simp only [Act.put, LA]
       refine wpAnyH_take (i := 18) (v := ?_) rfl (by kernel_rfl) (by kernel_rfl) (by kernel_rfl) (fun _ _ _ h => h) (Or.inl ⟨by rfl, ?_⟩) hS0 ?_
       rotate_left
       ·
        rintro w' ⟨⟨s1_, s2_, s3_, s4_, s5_⟩, r1_, r2_, r3_, r4_, r5_⟩
        go_simp
        first | done | with_reducible rfl | rfl
       simp only [Act.put, LA]
       refine wpAnyH_take (i := 19) (v := ?_) rfl (by kernel_rfl) (by kernel_rfl) (by kernel_rfl) (fun _ _ _ h => h) (Or.inl ⟨by rfl, ?_⟩) hS0 ?_
       rotate_left
       ·
        rintro w' ⟨⟨s1_, s2_, s3_, s4_, s5_⟩, r1_, r2_, r3_, r4_, r5_⟩
        go_simp
        first | done | with_reducible rfl | rfl
       simp only [Act.put, LA]
       refine wpAnyH_take (i := 20) (v := ?_) rfl (by kernel_rfl) (by kernel_rfl) (by kernel_rfl) (fun _ _ _ h => h) (Or.inl ⟨by rfl, ?_⟩) hS0 ?_
       rotate_left
       ·
        rintro w' ⟨⟨s1_, s2_, s3_, s4_, s5_⟩, r1_, r2_, r3_, r4_, r5_⟩
        go_simp
        first | done | with_reducible rfl | rfl
       simp only [Act.put, LA]
       refine wpAnyH_take (i := 21) (v := ?_) rfl (by kernel_rfl) (by kernel_rfl) (by kernel_rfl) (fun _ _ _ h => h) (Or.inl ⟨by rfl, ?_⟩) hS0 ?_
       rotate_left
       ·
        rintro w' ⟨⟨s1_, s2_, s3_, s4_, s5_⟩, r1_, r2_, r3_, r4_, r5_⟩
        go_simp
        first | done | with_reducible rfl | rfl
       simp only [Act.put, LA]
       refine wpAnyH_ready (rs := [22]) (by kernel_rfl) (by simp) (AllReadyH.cons rfl (fun K hK => ?_) AllReadyH.nil)
       go_simp
       refine (rbsame_any x.sx y.sx _ _ _ _ x.xs y.xs W0 (HUX.out.below B0.out).1 (HUY.out.below B0.out).1 hl1).mono ?_
       rintro e W1 ⟨rfl, b1⟩
       rw [← HSx.out]
       dsimp only
       have B1 := Lib.hid (B0.out.trans (b1.mono B0.out.size))
       have hS1 := And.intro (HCX.out.below (B1.out.block b HBL.out.1)) (HCY.out.below (B1.out.block bq HBL.out.2))
       refine hK.out _ _ hS1 (fun _ => ?_)
       clear hK K b1
       refine wpAnyH_take (i := 23) (v := ?_) rfl (by kernel_rfl) (by kernel_rfl) (by kernel_rfl) (fun _ _ _ h => h) (Or.inl ⟨by rfl, ?_⟩) hS1 ?_
       rotate_left
       ·
        rintro w' ⟨⟨s1_, s2_, s3_, s4_, s5_⟩, r1_, r2_, r3_, r4_, r5_⟩
        go_simp
        first | done | with_reducible rfl | rfl
       simp only [Act.put, LA]
       refine wpAnyH_take (i := 24) (v := ?_) rfl (by kernel_rfl) (by kernel_rfl) (by kernel_rfl) (fun _ _ _ h => h) (Or.inl ⟨by rfl, ?_⟩) hS1 ?_
       rotate_left
       ·
        rintro w' ⟨⟨s1_, s2_, s3_, s4_, s5_⟩, r1_, r2_, r3_, r4_, r5_⟩
        go_simp
        first | done | with_reducible rfl | rfl
       simp only [Act.put, LA]
       refine wpAnyH_take (i := 25) (v := ?_) rfl (by kernel_rfl) (by kernel_rfl) (by kernel_rfl) (fun _ _ _ h => h) (Or.inl ⟨by rfl, ?_⟩) hS1 ?_
       rotate_left
       ·
        rintro w' ⟨⟨s1_, s2_, s3_, s4_, s5_⟩, r1_, r2_, r3_, r4_, r5_⟩
        go_simp
        first | done | with_reducible rfl | rfl
       simp only [Act.put, LA]
       refine wpAnyH_take (i := 26) (v := ?_) rfl (by kernel_rfl) (by kernel_rfl) (by kernel_rfl) (fun _ _ _ h => h) (Or.inl ⟨by rfl, ?_⟩) hS1 ?_
       rotate_left
       ·
        rintro w' ⟨⟨s1_, s2_, s3_, s4_, s5_⟩, r1_, r2_, r3_, r4_, r5_⟩
        go_simp
        first | done | with_reducible rfl | rfl
       simp only [Act.put, LA]
       refine wpAnyH_take (i := 27) (v := ?_) rfl (by kernel_rfl) (by kernel_rfl) (by kernel_rfl) (fun _ _ _ h => h) (Or.inl ⟨by rfl, ?_⟩) hS1 ?_
       rotate_left
       ·
        rintro w' ⟨⟨s1_, s2_, s3_, s4_, s5_⟩, r1_, r2_, r3_, r4_, r5_⟩
        go_simp
        first | done | with_reducible rfl | rfl
       simp only [Act.put, LA]
       refine wpAnyH_take (i := 28) (v := ?_) rfl (by kernel_rfl) (by kernel_rfl) (by kernel_rfl) (fun _ _ _ h => h) (Or.inl ⟨by rfl, ?_⟩) hS1 ?_
       rotate_left
       ·
        rintro w' ⟨⟨s1_, s2_, s3_, s4_, s5_⟩, r1_, r2_, r3_, r4_, r5_⟩
        go_simp
        first | done | with_reducible rfl | rfl
       simp only [Act.put, LA]
       refine wpAnyH_take (i := 29) (v := ?_) rfl (by kernel_rfl) (by kernel_rfl) (by kernel_rfl) (fun _ _ _ h => h) (Or.inl ⟨by rfl, ?_⟩) hS1 ?_
       rotate_left
       ·
        rintro w' ⟨⟨s1_, s2_, s3_, s4_, s5_⟩, r1_, r2_, r3_, r4_, r5_⟩
        go_simp
        first | done | with_reducible rfl | rfl
       simp only [Act.put, LA]
       refine wpAnyH_take (i := 30) (v := ?_) rfl (by kernel_rfl) (by kernel_rfl) (by kernel_rfl) (fun _ _ _ h => h) (Or.inl ⟨by rfl, ?_⟩) hS1 ?_
       rotate_left
       ·
        rintro w' ⟨⟨s1_, s2_, s3_, s4_, s5_⟩, r1_, r2_, r3_, r4_, r5_⟩
        go_simp
        first | done | with_reducible rfl | rfl
       simp only [Act.put, LA]
       refine wpAnyH_take (i := 31) (v := ?_) rfl (by kernel_rfl) (by kernel_rfl) (by kernel_rfl) (fun _ _ _ h => h) (Or.inl ⟨by rfl, ?_⟩) hS1 ?_
       rotate_left
       ·
        rintro w' ⟨⟨s1_, s2_, s3_, s4_, s5_⟩, r1_, r2_, r3_, r4_, r5_⟩
        go_simp
        first | done | with_reducible rfl | rfl
       simp only [Act.put, LA]
       refine wpAnyH_take (i := 32) (v := ?_) rfl (by kernel_rfl) (by kernel_rfl) (by kernel_rfl) (fun _ _ _ h => h) (Or.inl ⟨by rfl, ?_⟩) hS1 ?_
       rotate_left
       ·
        rintro w' ⟨⟨s1_, s2_, s3_, s4_, s5_⟩, r1_, r2_, r3_, r4_, r5_⟩
        go_simp
        first | done | with_reducible rfl | rfl
       simp only [Act.put, LA]
       refine wpAnyH_take (i := 33) (v := ?_) rfl (by kernel_rfl) (by kernel_rfl) (by kernel_rfl) (fun _ _ _ h => h) (Or.inl ⟨by rfl, ?_⟩) hS1 ?_
       rotate_left
       ·
        rintro w' ⟨⟨s1_, s2_, s3_, s4_, s5_⟩, r1_, r2_, r3_, r4_, r5_⟩
        go_simp
        first | done | with_reducible rfl | rfl
       simp only [Act.put, LA]
       refine wpAnyH_take (i := 34) (v := ?_) rfl (by kernel_rfl) (by kernel_rfl) (by kernel_rfl) (fun _ _ _ h => h) (Or.inl ⟨by rfl, ?_⟩) hS1 ?_
       rotate_left
       ·
        rintro w' ⟨⟨s1_, s2_, s3_, s4_, s5_⟩, r1_, r2_, r3_, r4_, r5_⟩
        go_simp
        first | done | with_reducible rfl | rfl
       simp only [Act.put, LA]
       refine wpAnyH_take (i := 35) (v := ?_) rfl (by kernel_rfl) (by kernel_rfl) (by kernel_rfl) (fun _ _ _ h => h) (Or.inl ⟨by rfl, ?_⟩) hS1 ?_
       rotate_left
       ·
        rintro w' ⟨⟨s1_, s2_, s3_, s4_, s5_⟩, r1_, r2_, r3_, r4_, r5_⟩
        go_simp
        first | done | with_reducible rfl | rfl
       simp only [Act.put, LA]
       refine wpAnyH_ready (rs := [36]) (by kernel_rfl) (by simp) (AllReadyH.cons rfl (fun K hK => ?_) AllReadyH.nil)
       go_simp
       refine (rbsame_any x.sy y.sy _ _ _ _ x.ys y.ys W1 (HUX.out.below B1.out).2.1 (HUY.out.below B1.out).2.1 hl2).mono ?_
       rintro e W2 ⟨rfl, b2⟩
       rw [← HSy.out]
       dsimp only
       have B2 := Lib.hid (B1.out.trans (b2.mono B1.out.size))
       have hS2 := And.intro (HCX.out.below (B2.out.block b HBL.out.1)) (HCY.out.below (B2.out.block bq HBL.out.2))
       refine hK.out _ _ hS2 (fun _ => ?_)
       clear hK K b2
       refine wpAnyH_take (i := 37) (v := ?_) rfl (by kernel_rfl) (by kernel_rfl) (by kernel_rfl) (fun _ _ _ h => h) (Or.inl ⟨by rfl, ?_⟩) hS2 ?_
       rotate_left
       ·
        rintro w' ⟨⟨s1_, s2_, s3_, s4_, s5_⟩, r1_, r2_, r3_, r4_, r5_⟩
        go_simp
        first | done | with_reducible rfl | rfl
       simp only [Act.put, LA]
       refine wpAnyH_take (i := 38) (v := ?_) rfl (by kernel_rfl) (by kernel_rfl) (by kernel_rfl) (fun _ _ _ h => h) (Or.inl ⟨by rfl, ?_⟩) hS2 ?_
       rotate_left
       ·
        rintro w' ⟨⟨s1_, s2_, s3_, s4_, s5_⟩, r1_, r2_, r3_, r4_, r5_⟩
        go_simp
        first | done | with_reducible rfl | rfl
       simp only [Act.put, LA]
       refine wpAnyH_done (by kernel_rfl) ?_ _
       refine NoPanic.normal ?_
       -- end of case C
       go_wp2_with fail
       go_roundw
       case rel =>
        refine ⟨i + 1, by omega, by go_num, fun j hj => ?_, HB.out.trans (B2.out.mono HB.out.size)⟩
        rcases Nat.lt_or_ge j i with h | h
        ·
         exact HA.out j h
        ·
         rw [show j = i by omega, ← HXX.out, ← HYY.out]
         obtain ⟨e1, e2⟩ := of_decide_eq_true HSx.out.symm
         obtain ⟨e3, e4⟩ := of_decide_eq_true HSy.out.symm
         unfold Cv.kk
         rw [e1, e2, e3, e4, HST.out]
       case measure => simp [intOf]; omega
    ·
     have t2 : ((x.st : Int) != (y.st : Int)) = true := by rw [bne_iff_ne]; omega
     have HST := Lib.hid hst
     clear hst
     go_wp2_with fail
     -- case A
     refine wp_region_noPanic ?_
     refine wp_region_held (S := fun w' => (w'.cell? ⟨b, off + i * 5, none⟩ = some (.bool x.sx) ∧ w'.cell? ⟨b, off + i * 5 + 1, none⟩ = some (.slice x.ax x.xs.length x.cx) ∧ w'.cell? ⟨b, off + i * 5 + 2, none⟩ = some (.bool x.sy) ∧ w'.cell? ⟨b, off + i * 5 + 3, none⟩ = some (.slice x.ay x.ys.length x.cy) ∧ w'.cell? ⟨b, off + i * 5 + 4, none⟩ = some (.int .u8 x.st)) ∧ (w'.cell? ⟨bq, of2 + i * 5, none⟩ = some (.bool y.sx) ∧ w'.cell? ⟨bq, of2 + i * 5 + 1, none⟩ = some (.slice y.ax y.xs.length y.cx) ∧ w'.cell? ⟨bq, of2 + i * 5 + 2, none⟩ = some (.bool y.sy) ∧ w'.cell? ⟨bq, of2 + i * 5 + 3, none⟩ = some (.slice y.ay y.ys.length y.cy) ∧ w'.cell? ⟨bq, of2 + i * 5 + 4, none⟩ = some (.int .u8 y.st))) (by kernel_rfl) ?_
     obtain ⟨W0, hW0⟩ : ∃ W0 : World, W0 = wr.drew := ⟨_, rfl⟩
     have B0 := Lib.hid (show Below wr.heap.size wr W0 by rw [hW0]; exact below_drewN (Below.refl _ wr) 1)
     have hS0 := And.intro (HCX.out.below (B0.out.block b HBL.out.1)) (HCY.out.below (B0.out.block bq HBL.out.2))
     change wpAnyH _ _ _ _ _ _ _ _ wr.drew
     rw [← hW0]
     clear hW0
     refine wpAnyH_take (i := 0) (v := ?_) rfl (by kernel_rfl) (by kernel_rfl) (by kernel_rfl) (fun _ _ _ h => h) (Or.inl ⟨by rfl, ?_⟩) hS0 ?_
     rotate_left
     ·
      rintro w' ⟨⟨s1_, s2_, s3_, s4_, s5_⟩, r1_, r2_, r3_, r4_, r5_⟩
      go_simp
      first | done | with_reducible rfl | rfl
     simp only [Act.put, LA]
     refine wpAnyH_take (i := 1) (v := ?_) rfl (by kernel_rfl) (by kernel_rfl) (by kernel_rfl) (fun _ _ _ h => h) (Or.inl ⟨by rfl, ?_⟩) hS0 ?_
     rotate_left
     ·
      rintro w' ⟨⟨s1_, s2_, s3_, s4_, s5_⟩, r1_, r2_, r3_, r4_, r5_⟩
      go_simp
      first | done | with_reducible rfl | rfl
     simp only [Act.put, LA]
     refine wpAnyH_take (i := 2) (v := ?_) rfl (by kernel_rfl) (by kernel_rfl) (by kernel_rfl) (fun _ _ _ h => h) (Or.inl ⟨by rfl, ?_⟩) hS0 ?_
     rotate_left
     ·
      rintro w' ⟨⟨s1_, s2_, s3_, s4_, s5_⟩, r1_, r2_, r3_, r4_, r5_⟩
      go_simp
      first | done | with_reducible rfl | rfl
     simp only [Act.put, LA]
     refine wpAnyH_take (i := 3) (v := ?_) rfl (by kernel_rfl) (by kernel_rfl) (by kernel_rfl) (fun _ _ _ h => h) (Or.inl ⟨by rfl, ?_⟩) hS0 ?_
     rotate_left
     ·
      rintro w' ⟨⟨s1_, s2_, s3_, s4_, s5_⟩, r1_, r2_, r3_, r4_, r5_⟩
      go_simp
      first | done | with_reducible rfl | rfl
     simp only [Act.put, LA]
     refine wpAnyH_take (i := 4) (v := ?_) rfl (by kernel_rfl) (by kernel_rfl) (by kernel_rfl) (fun _ _ _ h => h) (Or.inl ⟨by rfl, ?_⟩) hS0 ?_
     rotate_left
     ·
      rintro w' ⟨⟨s1_, s2_, s3_, s4_, s5_⟩, r1_, r2_, r3_, r4_, r5_⟩
      go_simp
      first | done | with_reducible rfl | rfl
     simp only [Act.put, LA]
     refine wpAnyH_take (i := 5) (v := ?_) rfl (by kernel_rfl) (by kernel_rfl) (by kernel_rfl) (fun _ _ _ h => h) (Or.inl ⟨by rfl, ?_⟩) hS0 ?_
     rotate_left
     ·
      rintro w' ⟨⟨s1_, s2_, s3_, s4_, s5_⟩, r1_, r2_, r3_, r4_, r5_⟩
      go_simp
      first | done | with_reducible rfl | rfl
     simp only [Act.put, LA]
     refine wpAnyH_take (i := 6) (v := ?_) rfl (by kernel_rfl) (by kernel_rfl) (by kernel_rfl) (fun _ _ _ h => h) (Or.inl ⟨by rfl, ?_⟩) hS0 ?_
     rotate_left
     ·
      rintro w' ⟨⟨s1_, s2_, s3_, s4_, s5_⟩, r1_, r2_, r3_, r4_, r5_⟩
      go_simp
      first | done | with_reducible rfl | rfl
     simp only [Act.put, LA]
     refine wpAnyH_take (i := 7) (v := ?_) rfl (by kernel_rfl) (by kernel_rfl) (by kernel_rfl) (fun _ _ _ h => h) (Or.inl ⟨by rfl, ?_⟩) hS0 ?_
     rotate_left
     ·
      rintro w' ⟨⟨s1_, s2_, s3_, s4_, s5_⟩, r1_, r2_, r3_, r4_, r5_⟩
      go_simp
      first | done | with_reducible rfl | rfl
     simp only [Act.put, LA]
     refine wpAnyH_take (i := 8) (v := ?_) rfl (by kernel_rfl) (by kernel_rfl) (by kernel_rfl) (fun _ _ _ h => h) (Or.inl ⟨by rfl, ?_⟩) hS0 ?_
     rotate_left
     ·
      rintro w' ⟨⟨s1_, s2_, s3_, s4_, s5_⟩, r1_, r2_, r3_, r4_, r5_⟩
      go_simp
      first | done | with_reducible rfl | rfl
     simp only [Act.put, LA]
     refine wpAnyH_take (i := 9) (v := ?_) rfl (by kernel_rfl) (by kernel_rfl) (by kernel_rfl) (fun _ _ _ h => h) (Or.inl ⟨by rfl, ?_⟩) hS0 ?_
     rotate_left
     ·
      rintro w' ⟨⟨s1_, s2_, s3_, s4_, s5_⟩, r1_, r2_, r3_, r4_, r5_⟩
      go_simp
      first | done | with_reducible rfl | rfl
     simp only [Act.put, LA]
     refine wpAnyH_take (i := 10) (v := ?_) rfl (by kernel_rfl) (by kernel_rfl) (by kernel_rfl) (fun _ _ _ h => h) (Or.inl ⟨by rfl, ?_⟩) hS0 ?_
     rotate_left
     ·
      rintro w' ⟨⟨s1_, s2_, s3_, s4_, s5_⟩, r1_, r2_, r3_, r4_, r5_⟩
      go_simp
      first | done | with_reducible rfl | rfl
     simp only [Act.put, LA]
     refine wpAnyH_take (i := 11) (v := ?_) rfl (by kernel_rfl) (by kernel_rfl) (by kernel_rfl) (fun _ _ _ h => h) (Or.inl ⟨by rfl, ?_⟩) hS0 ?_
     rotate_left
     ·
      rintro w' ⟨⟨s1_, s2_, s3_, s4_, s5_⟩, r1_, r2_, r3_, r4_, r5_⟩
      go_simp
      first | done | with_reducible rfl | rfl
     simp only [Act.put, LA]
     refine wpAnyH_take (i := 12) (v := undef) rfl (by kernel_rfl) (by kernel_rfl) (by kernel_rfl) (fun _ _ _ h => h) (Or.inr ⟨by rfl, rfl⟩) hS0 ?_
     simp only [Act.put, LA]
     refine wpAnyH_take (i := 13) (v := undef) rfl (by kernel_rfl) (by kernel_rfl) (by kernel_rfl) (fun _ _ _ h => h) (Or.inr ⟨by rfl, rfl⟩) hS0 ?_
     simp only [Act.put, LA]
     refine wpAnyH_take (i := 14) (v := undef) rfl (by kernel_rfl) (by kernel_rfl) (by kernel_rfl) (fun _ _ _ h => h) (Or.inr ⟨by rfl, rfl⟩) hS0 ?_
     simp only [Act.put, LA]
     refine wpAnyH_take (i := 15) (v := undef) rfl (by kernel_rfl) (by kernel_rfl) (by kernel_rfl) (fun _ _ _ h => h) (Or.inr ⟨by rfl, rfl⟩) hS0 ?_
     simp only [Act.put, LA]
     refine wpAnyH_take (i := 16) (v := undef) rfl (by kernel_rfl) (by kernel_rfl) (by kernel_rfl) (fun _ _ _ h => h) (Or.inr ⟨by rfl, rfl⟩) hS0 ?_
     simp only [Act.put, LA]
     refine wpAnyH_take (i := 17) (v := undef) rfl (by kernel_rfl) (by kernel_rfl) (by kernel_rfl) (fun _ _ _ h => h) (Or.inr ⟨by rfl, rfl⟩) hS0 ?_
     simp only [Act.put, LA]
     refine wpAnyH_take (i := 18) (v := undef) rfl (by kernel_rfl) (by kernel_rfl) (by kernel_rfl) (fun _ _ _ h => h) (Or.inr ⟨by rfl, rfl⟩) hS0 ?_
     simp only [Act.put, LA]
     refine wpAnyH_take (i := 19) (v := undef) rfl (by kernel_rfl) (by kernel_rfl) (by kernel_rfl) (fun _ _ _ h => h) (Or.inr ⟨by rfl, rfl⟩) hS0 ?_
     simp only [Act.put, LA]
     refine wpAnyH_take (i := 20) (v := undef) rfl (by kernel_rfl) (by kernel_rfl) (by kernel_rfl) (fun _ _ _ h => h) (Or.inr ⟨by rfl, rfl⟩) hS0 ?_
     simp only [Act.put, LA]
     refine wpAnyH_take (i := 21) (v := undef) rfl (by kernel_rfl) (by kernel_rfl) (by kernel_rfl) (fun _ _ _ h => h) (Or.inr ⟨by rfl, rfl⟩) hS0 ?_
     simp only [Act.put, LA]
     refine wpAnyH_take (i := 22) (v := undef) rfl (by kernel_rfl) (by kernel_rfl) (by kernel_rfl) (fun _ _ _ h => h) (Or.inr ⟨by rfl, rfl⟩) hS0 ?_
     simp only [Act.put, LA]
     refine wpAnyH_take (i := 23) (v := undef) rfl (by kernel_rfl) (by kernel_rfl) (by kernel_rfl) (fun _ _ _ h => h) (Or.inr ⟨by rfl, rfl⟩) hS0 ?_
     simp only [Act.put, LA]
     refine wpAnyH_take (i := 24) (v := ?_) rfl (by kernel_rfl) (by kernel_rfl) (by kernel_rfl) (fun _ _ _ h => h) (Or.inl ⟨by rfl, ?_⟩) hS0 ?_
     rotate_left
     ·
      rintro w' ⟨⟨s1_, s2_, s3_, s4_, s5_⟩, r1_, r2_, r3_, r4_, r5_⟩
      go_simp
      first | done | with_reducible rfl | rfl
     simp only [Act.put, LA]
     refine wpAnyH_take (i := 25) (v := ?_) rfl (by kernel_rfl) (by kernel_rfl) (by kernel_rfl) (fun _ _ _ h => h) (Or.inl ⟨by rfl, ?_⟩) hS0 ?_
     rotate_left
     ·
      rintro w' ⟨⟨s1_, s2_, s3_, s4_, s5_⟩, r1_, r2_, r3_, r4_, r5_⟩
      go_simp
      first | done | with_reducible rfl | rfl
     simp only [Act.put, LA]
     refine wpAnyH_take (i := 26) (v := undef) rfl (by kernel_rfl) (by kernel_rfl) (by kernel_rfl) (fun _ _ _ h => h) (Or.inr ⟨by rfl, rfl⟩) hS0 ?_
     simp only [Act.put, LA]
     refine wpAnyH_take (i := 27) (v := undef) rfl (by kernel_rfl) (by kernel_rfl) (by kernel_rfl) (fun _ _ _ h => h) (Or.inr ⟨by rfl, rfl⟩) hS0 ?_
     simp only [Act.put, LA]
     refine wpAnyH_take (i := 28) (v := undef) rfl (by kernel_rfl) (by kernel_rfl) (by kernel_rfl) (fun _ _ _ h => h) (Or.inr ⟨by rfl, rfl⟩) hS0 ?_
     simp only [Act.put, LA]
     refine wpAnyH_take (i := 29) (v := undef) rfl (by kernel_rfl) (by kernel_rfl) (by kernel_rfl) (fun _ _ _ h => h) (Or.inr ⟨by rfl, rfl⟩) hS0 ?_
     simp only [Act.put, LA]
     refine wpAnyH_take (i := 30) (v := undef) rfl (by kernel_rfl) (by kernel_rfl) (by kernel_rfl) (fun _ _ _ h => h) (Or.inr ⟨by rfl, rfl⟩) hS0 ?_
     simp only [Act.put, LA]
     refine wpAnyH_take (i := 31) (v := undef) rfl (by kernel_rfl) (by kernel_rfl) (by kernel_rfl) (fun _ _ _ h => h) (Or.inr ⟨by rfl, rfl⟩) hS0 ?_
     simp only [Act.put, LA]
     refine wpAnyH_take (i := 32) (v := undef) rfl (by kernel_rfl) (by kernel_rfl) (by kernel_rfl) (fun _ _ _ h => h) (Or.inr ⟨by rfl, rfl⟩) hS0 ?_
     simp only [Act.put, LA]
     refine wpAnyH_take (i := 33) (v := undef) rfl (by kernel_rfl) (by kernel_rfl) (by kernel_rfl) (fun _ _ _ h => h) (Or.inr ⟨by rfl, rfl⟩) hS0 ?_
     simp only [Act.put, LA]
     refine wpAnyH_take (i := 34) (v := undef) rfl (by kernel_rfl) (by kernel_rfl) (by kernel_rfl) (fun _ _ _ h => h) (Or.inr ⟨by rfl, rfl⟩) hS0 ?_
     simp only [Act.put, LA]
     refine wpAnyH_take (i := 35) (v := undef) rfl (by kernel_rfl) (by kernel_rfl) (by kernel_rfl) (fun _ _ _ h => h) (Or.inr ⟨by rfl, rfl⟩) hS0 ?_
     simp only [Act.put, LA]
     refine wpAnyH_take (i := 36) (v := undef) rfl (by kernel_rfl) (by kernel_rfl) (by kernel_rfl) (fun _ _ _ h => h) (Or.inr ⟨by rfl, rfl⟩) hS0 ?_
     simp only [Act.put, LA]
     refine wpAnyH_take (i := 37) (v := undef) rfl (by kernel_rfl) (by kernel_rfl) (by kernel_rfl) (fun _ _ _ h => h) (Or.inr ⟨by rfl, rfl⟩) hS0 ?_
     simp only [Act.put, LA]
     refine wpAnyH_take (i := 38) (v := ?_) rfl (by kernel_rfl) (by kernel_rfl) (by kernel_rfl) (fun _ _ _ h => h) (Or.inl ⟨by rfl, ?_⟩) hS0 ?_
     rotate_left
     ·
      rintro w' ⟨⟨s1_, s2_, s3_, s4_, s5_⟩, r1_, r2_, r3_, r4_, r5_⟩
      go_simp
      first | done | with_reducible rfl | rfl
     simp only [Act.put, LA]
     refine wpAnyH_done (by kernel_rfl) ?_ _
     refine NoPanic.normal ?_
     -- end of case A
     go_wp2_with fail
     go_ret
     refine ⟨?_, HB.out.trans (B0.out.mono HB.out.size)⟩
     rw [HR.out, same_no (i := i) (by rw [HN.out]; exact HLT.out) (by rw [HM.out]; exact HLT.out) (fun e => by
      rw [← HXX.out, ← HYY.out] at e
      exact HST.out (congrArg (fun q => q.2.2) e))]
     rfl
   ·
    obtain rfl : i = n := by omega
    have t1 : decide ((i : Int) < (i : Int)) = false := decide_eq_false (by omega)
    clear hb
    go_wp2_with fail
    go_ret
    refine ⟨?_, HB.out⟩
    rw [HR.out, same_yes HN.out HM.out HA.out]
    rfl
 ·
  have t0 : ((n : Int) != (m : Int)) = true := by rw [bne_iff_ne]; omega
  have HNE := Lib.hid hne
  clear hne
  go_enter Tryz.func12, Tryz.ntmps12
  go_wp2_with fail
  go_ret
  refine ⟨?_, Below.refl _ _⟩
  rw [HR.out, same_len (by rw [HN.out, HM.out]; exact HNE.out)]
  rfl
end Go.Proofs.YtmfncapgikobkaaGreat

namespace Go.Proofs.YtmfncapgikobkaaGreat
set_option maxRecDepth 100000
set_option linter.unusedVariables false
set_option linter.unusedSimpArgs false
open Go.RowKit Nds Num Go.Shelf
theorem OwnC.mono {w : World} {base base' : Nat} {v : Value} {l : List Cv} (h : OwnC w base v l) (hb : base' ≤ base) : OwnC w base' v l := by
 refine ⟨h.1, ?_⟩
 rcases h.2 with h | ⟨g, cap, cur, e, hb', rest⟩
 ·
  exact .inl h
 ·
  exact .inr ⟨g, cap, cur, e, by omega, rest⟩
def RetSt (l : List Cv) (w : World) (e : Ending) (w' : World) : Prop :=
 ∃ v out, e = .returned v ∧ out.map Cv.cl = lastF (l.map Cv.cl) ∧ (∀ x ∈ out, x ∈ l) ∧ OwnC w' w.heap.size v out ∧ out.length ≤ l.length ∧ Below w.heap.size w w'
set_option maxRecDepth 100000 in
set_option maxHeartbeats 6400000 in
theorem standing_any (A : Option Addr) (c n : Nat) (l : List Cv) (w : World) (h : Cs w A c l) (hn : l.length = n) (hR : ∀ v ∈ l, CvR v) (h0 : 0 < n) (hn9 : n ≤ 900000) :
  Calls Tryz.prog 26 #[.slice A n c] w (RetSt l w) := by
 have hcap := h.cap
 rw [hn] at hcap
 obtain ⟨W, hW⟩ : ∃ W : World, W = w.alloc (.cells #[.slice A n c] 22) := ⟨_, rfl⟩
 have hb : Below w.heap.size w W := by rw [hW]; exact (Below.refl _ w).alloc (Nat.le_refl _) _
 have hsz : W.heap.size = w.heap.size + 1 := by rw [hW]; simp
 have hbx := cell_new_l w (.slice A n c) 22
 rw [← hW] at hbx
 obtain ⟨i0, hi, hz0, hz1, hz2⟩ := info_parts Tryz.infoI
 have HI := Lib.hid (And.intro hi (And.intro hz0 (And.intro hz1 hz2)))
 have HN := Lib.hid hn
 have HR := Lib.hid hR
 have HW := Lib.hid hW
 have HB := Lib.hid hb
 have HSZ := Lib.hid hsz
 have HC := Lib.hid h
 have HBX := Lib.hid hbx
 obtain ⟨b1, b2⟩ := hbx
 rw [hW] at b1 b2
 clear h hi hz0 hz1 hz2 hR hW hb hsz
 go_enter Tryz.func26, Tryz.ntmps26
 go_wp2_with (first
  | (at_make; go_loud (rw [← HW.out]; refine wpList_make_full _ rfl _ _ 67 rfl w.heap.size 3 i0 _ 1 Tryz.underlying67 HI.out.1 HI.out.2.1 HI.out.2.2.1 .i64 .i64 _ _ n rfl rfl (by omega) (by omega) (by rw [HI.out.2.2.2]; omega) (by unfold maxLen; omega) HB.out.size ?_; intro w0 own grow)))
 obtain ⟨g, hg⟩ : ∃ g, g = W.heap.size := ⟨_, rfl⟩
 rw [← hg] at own
 rw [← hg]
 have HGE := Lib.hid (hg.trans HSZ.out)
 have od := OwnD.made own
 have HB0 := Lib.hid (HB.out.grown grow HB.out.size (fun k hk => by cases hk))
 have hbx0 := grow.cell HBX.out.1 (by simp)
 clear own hg
 have HGR := Lib.hid grow
 clear grow
 go_loopw [14] (fun z1 wr => ∃ (q : Nat) (ds : List Nat), q ≤ n ∧ z1 = .int .i64 q ∧ OwnD wr w.heap.size g n ds ∧ (∀ j, j < q → ds.getD j 0 = j) ∧ wr.cell? ⟨w.heap.size, 0, none⟩ = some (.slice A n c) ∧ Below w.heap.size w wr) (fun z1 _ => n - (intOf z1).toNat)
 case atStart => exact ⟨0, _, by omega, rfl, od, fun j hj => by omega, hbx0, HB0.out⟩
 case round =>
  obtain ⟨q, ds, hq, rfl, hod, hds, hbw, hbb⟩ := hrel
  have HQ := Lib.hid hds
  have HOD := Lib.hid hod
  have HBB := Lib.hid hbb
  have HBW := Lib.hid hbw
  clear hds hbb od
  by_cases hlt : q < n
  ·
   have i1 : (q : Int) < (n : Int) := by omega
   have i2 : (0 : Int) ≤ (q : Int) := by omega
   have t1 : decide ((q : Int) < (n : Int)) = true := decide_eq_true i1
   have cc := hod.cell hlt
   have cf := hod.free q
   clear hod
   go_wp2_with fail
   go_roundw
   case rel =>
    refine ⟨q + 1, ds.set q q, by omega, by go_num, HOD.out.set q q, fun j hj => ?_, ?_, ?_⟩
    ·
     rw [List.getD_eq_getElem?_getD, List.getElem?_set]
     by_cases hjq : q = j
     ·
      subst hjq
      rw [if_pos rfl, if_pos (by rw [HOD.out.1]; exact hlt)]
      rfl
     ·
      rw [if_neg hjq, ← List.getD_eq_getElem?_getD]
      exact HQ.out j (by omega)
    ·
     rw [World.cell?_setCell_other _ _ _ _ (by simp; have := HGE.out; omega)]; exact HBW.out
    ·
     exact HBB.out.setCell (p := ⟨g, q, none⟩) (by show w.heap.size ≤ g; have := HGE.out; omega) _
   case measure => simp [intOf]; omega
  ·
   obtain rfl : q = n := by omega
   have t1 : decide ((q : Int) < (q : Int)) = false := decide_eq_false (by omega)
   have hso := sortI_any w.heap.size A c q l wr hbw (HC.out.below HBB.out) HN.out HR.out g q h0 (by omega) HOD.out.lt.2 (by have := HGE.out; omega) (fun a ea e => by obtain ⟨b', off', e', hb', _⟩ := HC.out.at_ (by rw [HN.out]; exact h0); rw [ea] at e'; cases e'; have := HGE.out; dsimp only at e; omega)
    (fun v hv => off_of (HC.out.1 v hv) (by have := HGE.out; omega))
    (fun i hi => by have := HOD.out.cell hi; rwa [HQ.out i hi] at this) HOD.out.free
   have HSO := Lib.hid hso
   clear hso hod hbw
   go_wp2_with (go_at_call 56; go_loud (refine HSO.out.mono ?_; rintro e w2 ⟨rfl, o, hperm, hsrt, hoc, hg2⟩))
   have HPM := Lib.hid hperm
   have HSR := Lib.hid hsrt
   have HLO := Lib.hid (show o.length = q by rw [hperm.length_eq, List.length_range])
   have hbx2 := hg2.cell HBW.out (by intro e; have h1 := HGE.out; have h2 := Option.some.inj e; dsimp only at h2; omega)
   have hb2 : Below w.heap.size w w2 := HBB.out.grown hg2 HBB.out.size (fun k e => by have h1 := HGE.out; have h2 := Option.some.inj e; omega)
   have hs2 : w.heap.size + 2 ≤ w2.heap.size := by have h1 := HGE.out; have h2 := HOD.out.lt.2; have h3 := hg2.size; omega
   have HB2 := Lib.hid hb2
   have HS2 := Lib.hid hs2
   have HOC2 := Lib.hid hoc
   have HBX2 := Lib.hid hbx2
   clear hperm hsrt hoc hg2 hbx2 hb2 hs2
   have hlo9 : ∀ i, i < q → o[i]?.getD 0 < q := fun i hi => by
    have hoi : o[i]?.getD 0 ∈ o := by rw [List.getElem?_eq_getElem (by rw [HLO.out]; omega)]; exact List.getElem_mem _
    exact List.mem_range.1 (HPM.out.mem_iff.1 hoi)
   have HLO9 := Lib.hid hlo9
   clear hlo9
   go_loopw [27, 5] (fun z1 z2 wr => ∃ (p : Nat), p ≤ q ∧ z1 = .int .i64 p ∧ OwnC wr (w.heap.size + 2) z2 (standL l o p) ∧ (∀ i, i < q → wr.cell? ⟨g, i, none⟩ = some (.int .i64 ((o[i]?.getD 0 : Nat) : Int))) ∧ wr.cell? ⟨w.heap.size, 0, none⟩ = some (.slice A q c) ∧ Below w.heap.size w wr ∧ w.heap.size + 2 ≤ wr.heap.size) (fun z1 _ _ => q - (intOf z1).toNat)
   case atStart => exact ⟨0, by omega, rfl, OwnC.nil _ _, HOC2.out, HBX2.out, HB2.out, HS2.out⟩
   case round =>
    obtain ⟨p, hp, rfl, hown, hoc, hbw, hbb, hsw⟩ := hrel
    have HOW := Lib.hid hown
    have HOC := Lib.hid hoc
    have HBW' := Lib.hid hbw
    have HBB' := Lib.hid hbb
    have HSW := Lib.hid hsw
    by_cases hlt : p < q
    ·
     have i1 : (p : Int) < (q : Int) := by omega
     have i2 : (0 : Int) ≤ (p : Int) := by omega
     have t1 : decide ((p : Int) < (q : Int)) = true := decide_eq_true i1
     obtain ⟨b, off, hAe, hbl, hcl⟩ := (HC.out.below hbb).at_ (by rw [HN.out]; exact h0)
     subst hAe
     obtain ⟨a, ha⟩ : ∃ a, a = o[p]?.getD 0 := ⟨_, rfl⟩
     have ha9 : a < q := by rw [ha]; exact HLO9.out p hlt
     have oc1 := hoc p hlt
     rw [← ha] at oc1
     have HOA := Lib.hid ha
     obtain ⟨c1, c2, c3, c4, c5⟩ := hcl a (by rw [HN.out]; exact ha9)
     obtain ⟨x, hx⟩ : ∃ x, x = cat l a := ⟨_, rfl⟩
     rw [← hx] at c1 c2 c3 c4 c5
     have HX := Lib.hid hx
     have HXU := Lib.hid (show CvU wr x by rw [hx]; exact (HC.out.below hbb).1 _ (cat_mem (by rw [HN.out]; exact ha9)))
     have HXR := Lib.hid (show CvR x by rw [hx]; exact HR.out _ (cat_mem (by rw [HN.out]; exact ha9)))
     have hx1 := HXU.out.1.cap
     have hx2 := HXU.out.2.1.cap
     have a1 : (0 : Int) ≤ (a : Int) := by omega
     have a2 : (a : Int) < (q : Int) := by omega
     have HCV := Lib.hid (show CvAt wr b (off + a * 5) x from ⟨c1, c2, c3, c4, c5⟩)
     have HCL := Lib.hid hcl
     have HLb := Lib.hid hbl
     have HLG := Lib.hid (lt_of_cell oc1)
     have HLB := Lib.hid (lt_of_cell hbw)
     have jw : IntKind.i64.wrap ((p : Int) + 1) = (p : Int) + 1 := by simp [IntKind.wrap, IntKind.bits, IntKind.signed]; omega
     by_cases hlast : p + 1 < q
     ·
      obtain ⟨e, he⟩ : ∃ e, e = o[p + 1]?.getD 0 := ⟨_, rfl⟩
      have he9 : e < q := by rw [he]; exact HLO9.out _ hlast
      have oc2 := hoc (p + 1) hlast
      rw [← he] at oc2
      have HOE := Lib.hid he
      obtain ⟨d1, d2, d3, d4, d5⟩ := hcl e (by rw [HN.out]; exact he9)
      obtain ⟨y, hy⟩ : ∃ y, y = cat l e := ⟨_, rfl⟩
      rw [← hy] at d1 d2 d3 d4 d5
      have HY := Lib.hid hy
      have HYU := Lib.hid (show CvU wr y by rw [hy]; exact (HC.out.below hbb).1 _ (cat_mem (by rw [HN.out]; exact he9)))
      have HYR := Lib.hid (show CvR y by rw [hy]; exact HR.out _ (cat_mem (by rw [HN.out]; exact he9)))
      have hy1 := HYU.out.1.cap
      have hy2 := HYU.out.2.1.cap
      have b1 : (0 : Int) ≤ (e : Int) := by omega
      have b2' : (e : Int) < (q : Int) := by omega
      have j1 : (0 : Int) ≤ (p : Int) + 1 := by omega
      have j2 : (p : Int) + 1 < (q : Int) := by omega
      have j3 : decide ((p : Int) + 1 < (q : Int)) = true := decide_eq_true j2
      have HCY := Lib.hid (show CvAt wr b (off + e * 5) y from ⟨d1, d2, d3, d4, d5⟩)
      have HO2 := Lib.hid oc2
      obtain ⟨r, hr⟩ : ∃ r, r = ordC x y := ⟨_, rfl⟩
      have HRr := Lib.hid hr
      have st : Gro wr wr.drew := (Gro.refl wr).drewN 1
      clear hx ha hy he hr hcl hoc hown hbb hsw
      by_cases hz : r = 0
      ·
       subst hz
       have HKP := Lib.hid (show keepAt l o p = false by
        unfold keepAt
        rw [← HOA.out, ← HX.out, ← HOE.out, ← HY.out, ← HRr.out, decide_eq_true (show p + 1 < o.length by rw [HLO.out]; exact hlast)]
        rfl)
       go_wp2_with fail
       go_region_held3 (fun w' => w'.cell? ⟨w.heap.size, 0, none⟩ = some (.slice (some ⟨b, off, none⟩) q c) ∧ w'.cell? ⟨g, p + 1, none⟩ = some (.int .i64 (e : Int)) ∧ (w'.cell? ⟨b, off + a * 5, none⟩ = some (.bool x.sx) ∧ w'.cell? ⟨b, off + a * 5 + 1, none⟩ = some (.slice x.ax x.xs.length x.cx) ∧ w'.cell? ⟨b, off + a * 5 + 2, none⟩ = some (.bool x.sy) ∧ w'.cell? ⟨b, off + a * 5 + 3, none⟩ = some (.slice x.ay x.ys.length x.cy) ∧ w'.cell? ⟨b, off + a * 5 + 4, none⟩ = some (.int .u8 x.st)) ∧ (w'.cell? ⟨b, off + e * 5, none⟩ = some (.bool y.sx) ∧ w'.cell? ⟨b, off + e * 5 + 1, none⟩ = some (.slice y.ax y.xs.length y.cx) ∧ w'.cell? ⟨b, off + e * 5 + 2, none⟩ = some (.bool y.sy) ∧ w'.cell? ⟨b, off + e * 5 + 3, none⟩ = some (.slice y.ay y.ys.length y.cy) ∧ w'.cell? ⟨b, off + e * 5 + 4, none⟩ = some (.int .u8 y.st)))
        (first | go_keep | exact ⟨k0, k9, ⟨e1, e2, e3, e4, e5⟩, ⟨f1, f2, f3, f4, f5⟩⟩)
        (first | (go_at_call 44; refine (byPlace_gro x y _ (HXU.out.below st.b) (HYU.out.below st.b) HXR.out HYR.out).mono ?_; rintro e w1 ⟨rfl, g1⟩; rw [← HRr.out]; have k0 := ((st.trans g1).b.cell (p := ⟨w.heap.size, 0, none⟩) HLB.out).trans HBW'.out; have k9 := ((st.trans g1).b.cell (p := ⟨g, p + 1, none⟩) HLG.out).trans HO2.out; obtain ⟨e1, e2, e3, e4, e5⟩ := HCV.out.below ((st.trans g1).b.block b HLb.out); obtain ⟨f1, f2, f3, f4, f5⟩ := HCY.out.below ((st.trans g1).b.block b HLb.out)))
       all_goals
        have HG1 := Lib.hid (st.trans g1)
        go_wp2_with fail
        go_roundw
        case rel =>
         refine ⟨p + 1, by omega, by go_num, ?_, ?_, ?_, ?_, ?_⟩
         ·
          rw [standL_succ, if_neg (by rw [HKP.out]; simp)]; exact (HOW.out.kept (gbN HG1.out.b) (own_dec (fun k hk e => by cases e)))
         ·
          exact fun j hj => (HG1.out.b.cell (p := ⟨g, j, none⟩) HLG.out).trans (HOC.out j hj)
         ·
          exact (HG1.out.b.cell (p := ⟨w.heap.size, 0, none⟩) HLB.out).trans HBW'.out
         ·
          exact HBB'.out.trans (HG1.out.b.mono HBB'.out.size)
         ·
          exact Nat.le_trans HSW.out HG1.out.b.size
        case measure => simp [intOf]; omega
      ·
       have t2 : (r == 0) = false := by rw [beq_eq_false_iff_ne]; exact hz
       have HNO := Lib.hid (show (decide (p + 1 < o.length) && (ordC (cat l a) (cat l (o[p + 1]?.getD 0)) == 0)) = false by rw [← HX.out, ← HOE.out, ← HY.out, ← HRr.out, t2, Bool.and_false])
       clear hz
       go_wp2_with fail
       go_region_held3 (fun w' => w'.cell? ⟨w.heap.size, 0, none⟩ = some (.slice (some ⟨b, off, none⟩) q c) ∧ w'.cell? ⟨g, p + 1, none⟩ = some (.int .i64 (e : Int)) ∧ (w'.cell? ⟨b, off + a * 5, none⟩ = some (.bool x.sx) ∧ w'.cell? ⟨b, off + a * 5 + 1, none⟩ = some (.slice x.ax x.xs.length x.cx) ∧ w'.cell? ⟨b, off + a * 5 + 2, none⟩ = some (.bool x.sy) ∧ w'.cell? ⟨b, off + a * 5 + 3, none⟩ = some (.slice x.ay x.ys.length x.cy) ∧ w'.cell? ⟨b, off + a * 5 + 4, none⟩ = some (.int .u8 x.st)) ∧ (w'.cell? ⟨b, off + e * 5, none⟩ = some (.bool y.sx) ∧ w'.cell? ⟨b, off + e * 5 + 1, none⟩ = some (.slice y.ax y.xs.length y.cx) ∧ w'.cell? ⟨b, off + e * 5 + 2, none⟩ = some (.bool y.sy) ∧ w'.cell? ⟨b, off + e * 5 + 3, none⟩ = some (.slice y.ay y.ys.length y.cy) ∧ w'.cell? ⟨b, off + e * 5 + 4, none⟩ = some (.int .u8 y.st)))
        (first | go_keep | exact ⟨k0, k9, ⟨e1, e2, e3, e4, e5⟩, ⟨f1, f2, f3, f4, f5⟩⟩)
        (first | (go_at_call 44; refine (byPlace_gro x y _ (HXU.out.below st.b) (HYU.out.below st.b) HXR.out HYR.out).mono ?_; rintro e w1 ⟨rfl, g1⟩; rw [← HRr.out]; have k0 := ((st.trans g1).b.cell (p := ⟨w.heap.size, 0, none⟩) HLB.out).trans HBW'.out; have k9 := ((st.trans g1).b.cell (p := ⟨g, p + 1, none⟩) HLG.out).trans HO2.out; obtain ⟨e1, e2, e3, e4, e5⟩ := HCV.out.below ((st.trans g1).b.block b HLb.out); obtain ⟨f1, f2, f3, f4, f5⟩ := HCY.out.below ((st.trans g1).b.block b HLb.out)))
       all_goals
        have HG1 := Lib.hid (st.trans g1)
        have k0 := (HG1.out.b.cell (p := ⟨w.heap.size, 0, none⟩) HLB.out).trans HBW'.out
        obtain ⟨e1, e2, e3, e4, e5⟩ := HCV.out.below (HG1.out.b.block b HLb.out)
        by_cases hst : x.st = 0
        ·
         have t3 : ((x.st : Int) != 0) = false := by rw [bne_eq_false_iff_eq]; omega
         have HKP := Lib.hid (show keepAt l o p = false by unfold keepAt; rw [← HOA.out, ← HX.out, hst]; simp)
         go_wp2_with fail
         go_roundw
         case rel =>
          refine ⟨p + 1, by omega, by go_num, ?_, ?_, ?_, ?_, ?_⟩
          ·
           rw [standL_succ, if_neg (by rw [HKP.out]; simp)]; exact (HOW.out.kept (gbN HG1.out.b) (own_dec (fun k hk e => by cases e)))
          ·
           exact fun j hj => (HG1.out.b.cell (p := ⟨g, j, none⟩) HLG.out).trans (HOC.out j hj)
          ·
           exact (HG1.out.b.cell (p := ⟨w.heap.size, 0, none⟩) HLB.out).trans HBW'.out
          ·
           exact HBB'.out.trans (HG1.out.b.mono HBB'.out.size)
          ·
           exact Nat.le_trans HSW.out HG1.out.b.size
         case measure => simp [intOf]; omega
        ·
         have t3 : ((x.st : Int) != 0) = true := by rw [bne_iff_ne]; omega
         have HKP := Lib.hid (show keepAt l o p = true by unfold keepAt; rw [← HOA.out, HNO.out, ← HX.out, bne_iff_ne.2 hst]; rfl)
         go_wp2_with (at_builtin; go_loud (refine wpList_append_cell _ rfl _ _ rfl (w.heap.size + 2) _ (standL l o p) x _ 1 rfl rfl ((HOW.out.kept (gbN HG1.out.b) (own_dec (fun k hk e => by cases e))).alloc _) (cell_box _ x) (by have := standL_len l o p; omega) (by have h1 := HSW.out; have h2 := HG1.out.b.size; simp; omega) ?_; intro v5 w5 hown5 hg5 hk5; have HO5 := Lib.hid hown5; have HG5 := Lib.hid hg5; clear hown5 hg5 hk5))
         go_roundw
         case rel =>
          have HB5 : Below (w.heap.size + 2) wr w5 := ((HG1.out.b.mono HSW.out).alloc (Nat.le_trans HSW.out HG1.out.b.size) _).grown HG5.out (by simp; have := HSW.out; have := HG1.out.b.size; omega) (fun k hk => (HOW.out.lt k hk).1)
          refine ⟨p + 1, by omega, by go_num, ?_, ?_, ?_, ?_, ?_⟩
          ·
           rw [standL_succ, if_pos HKP.out, ← HOA.out, ← HX.out]; exact HO5.out
          ·
           exact fun j hj => (HB5.cell (p := ⟨g, j, none⟩) (by show g < _; have := HGE.out; omega)).trans (HOC.out j hj)
          ·
           exact (HB5.cell (p := ⟨w.heap.size, 0, none⟩) (by show w.heap.size < _; omega)).trans HBW'.out
          ·
           exact HBB'.out.trans (HB5.mono (by omega))
          ·
           exact Nat.le_trans HSW.out HB5.size
         case measure => simp [intOf]; omega
     ·
      have j3 : decide ((p : Int) + 1 < (q : Int)) = false := decide_eq_false (by omega)
      have HNO := Lib.hid (show (decide (p + 1 < o.length) && (ordC (cat l a) (cat l (o[p + 1]?.getD 0)) == 0)) = false by rw [decide_eq_false (show ¬ p + 1 < o.length by rw [HLO.out]; exact hlast), Bool.false_and])
      clear hx ha hcl hoc hown hbb hsw
      go_wp2_with fail
      go_quiet (fail)
      have g0 : Gro wr (wr.drewN nq) := (Gro.refl wr).drewN nq
      have HG1 := Lib.hid g0
      have k0 := (HG1.out.b.cell (p := ⟨w.heap.size, 0, none⟩) HLB.out).trans HBW'.out
      obtain ⟨e1, e2, e3, e4, e5⟩ := HCV.out.below (HG1.out.b.block b HLb.out)
      by_cases hst : x.st = 0
      ·
       have t3 : ((x.st : Int) != 0) = false := by rw [bne_eq_false_iff_eq]; omega
       have HKP := Lib.hid (show keepAt l o p = false by unfold keepAt; rw [← HOA.out, ← HX.out, hst]; simp)
       go_wp2_with fail
       go_roundw
       case rel =>
        refine ⟨p + 1, by omega, by go_num, ?_, ?_, ?_, ?_, ?_⟩
        ·
         rw [standL_succ, if_neg (by rw [HKP.out]; simp)]; exact (HOW.out.kept (gbN HG1.out.b) (own_dec (fun k hk e => by cases e)))
        ·
         exact fun j hj => (HG1.out.b.cell (p := ⟨g, j, none⟩) HLG.out).trans (HOC.out j hj)
        ·
         exact (HG1.out.b.cell (p := ⟨w.heap.size, 0, none⟩) HLB.out).trans HBW'.out
        ·
         exact HBB'.out.trans (HG1.out.b.mono HBB'.out.size)
        ·
         exact Nat.le_trans HSW.out HG1.out.b.size
       case measure => simp [intOf]; omega
      ·
       have t3 : ((x.st : Int) != 0) = true := by rw [bne_iff_ne]; omega
       have HKP := Lib.hid (show keepAt l o p = true by unfold keepAt; rw [← HOA.out, HNO.out, ← HX.out, bne_iff_ne.2 hst]; rfl)
       go_wp2_with (at_builtin; go_loud (refine wpList_append_cell _ rfl _ _ rfl (w.heap.size + 2) _ (standL l o p) x _ 1 rfl rfl ((HOW.out.kept (gbN HG1.out.b) (own_dec (fun k hk e => by cases e))).alloc _) (cell_box _ x) (by have := standL_len l o p; omega) (by have h1 := HSW.out; have h2 := HG1.out.b.size; simp; omega) ?_; intro v5 w5 hown5 hg5 hk5; have HO5 := Lib.hid hown5; have HG5 := Lib.hid hg5; clear hown5 hg5 hk5))
       go_roundw
       case rel =>
        have HB5 : Below (w.heap.size + 2) wr w5 := ((HG1.out.b.mono HSW.out).alloc (Nat.le_trans HSW.out HG1.out.b.size) _).grown HG5.out (by simp; have := HSW.out; have := HG1.out.b.size; omega) (fun k hk => (HOW.out.lt k hk).1)
        refine ⟨p + 1, by omega, by go_num, ?_, ?_, ?_, ?_, ?_⟩
        ·
         rw [standL_succ, if_pos HKP.out, ← HOA.out, ← HX.out]; exact HO5.out
        ·
         exact fun j hj => (HB5.cell (p := ⟨g, j, none⟩) (by show g < _; have := HGE.out; omega)).trans (HOC.out j hj)
        ·
         exact (HB5.cell (p := ⟨w.heap.size, 0, none⟩) (by show w.heap.size < _; omega)).trans HBW'.out
        ·
         exact HBB'.out.trans (HB5.mono (by omega))
        ·
         exact Nat.le_trans HSW.out HB5.size
       case measure => simp [intOf]; omega
    ·
     obtain rfl : p = q := by omega
     have t1 : decide ((p : Int) < (p : Int)) = false := decide_eq_false (by omega)
     clear hown hoc hbw hbb hsw
     go_wp2_with fail
     go_ret
     refine ⟨_, standL l o p, rfl, stand_spec HN.out HPM.out HSR.out, fun v hv => standL_mem HN.out HPM.out (Nat.le_refl _) hv, HOW.out.mono (by omega), by rw [HN.out]; exact standL_len l o p, HBB'.out⟩
end Go.Proofs.YtmfncapgikobkaaGreat
