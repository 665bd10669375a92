/-
  cells: standing and nodes of no cells.
  cells.Of: the quad of cells, or why there is none.
  cells.Of: the walk.
  cells: what Of leaves is the quad of the cells that stand; plain.
  cells, the reference: counts, Count.
  cells, the reference: Count.
  the reference's limbs out of bits, sign, Add: their answers lie in new memory.
  cells: append of slices of cells; rows of cells whose numbers lie elsewhere.
-/
import Derived.Test.YtmfncapgikobkaaGreatGClSa
import Derived.Test.YtmfncapgikobkaaGreatGClLj
import Derived.Test.YtmfncapgikobkaaGreatGBigF
import Derived.Test.YtmfncapgikobkaaGreatGClPb
import Derived.Test.YtmfncapgikobkaaGreatGNdsQ
import Derived.Test.YtmfncapgikobkaaGreatGSums
import Derived.Test.YtmfncapgikobkaaGreatGClWi
import Derived.Test.YtmfncapgikobkaaGreatLay0

namespace Go.Proofs.YtmfncapgikobkaaGreat
set_option maxRecDepth 100000
set_option linter.unusedVariables false
set_option linter.unusedSimpArgs false
open Go.RowKit Nds Num Go.Shelf
set_option maxRecDepth 100000 in
set_option maxHeartbeats 3200000 in
theorem nodes_zero (A0 : Option Addr) (c0 lv : Nat) (w : World) :
  Calls Tryz.prog 28 #[.slice A0 0 c0, .int .i64 (lv : Int)] w fun e w' => e = .returned (.slice none 0 0) ∧ Below w.heap.size w w' := by
 go_enter Tryz.func28, Tryz.ntmps28
 go_wp2_with fail
 go_ret
 exact ⟨rfl, Below.refl _ _⟩
theorem sort_none (p : Option Addr) (cap : Nat) (fv : Value) (w : World) : Calls Tryz.prog 56 #[.slice p 0 cap, fv] w fun e w' => e = .returned (.tuple #[]) ∧ w' = w := by
 have h := AnyF.slices_SortFunc_none (P := Tryz.prog) { Tryz.sortI with } p cap fv w
 exact h
set_option maxRecDepth 100000 in
set_option maxHeartbeats 3200000 in
theorem standing_zero (A : Option Addr) (c : Nat) (w : World) :
  Calls Tryz.prog 26 #[.slice A 0 c] w (RetSt [] w) := by
 obtain ⟨W, hW⟩ : ∃ W : World, W = w.alloc (.cells #[.slice A 0 c] 22) := ⟨_, rfl⟩
 have hb : Below w.heap.size w W := by rw [hW]; exact (Below.refl _ w).alloc (Nat.le_refl _) _
 obtain ⟨b1, b2⟩ := cell_new_l w (.slice A 0 c) 22
 obtain ⟨i0, hi, hz0, hz1, hz2⟩ := info_parts Tryz.infoI
 have HI := Lib.hid (And.intro hi (And.intro hz0 (And.intro hz1 hz2)))
 have HW := Lib.hid hW
 have HB := Lib.hid hb
 clear hi hz0 hz1 hz2 hW hb
 go_enter Tryz.func26, Tryz.ntmps26
 go_wp2_with (first
  | (at_make; go_loud (rw [← HW.out]; refine wpList_make_full _ rfl _ _ 67 rfl w.heap.size 3 i0 _ 1 Tryz.underlying67 HI.out.1 HI.out.2.1 HI.out.2.2.1 .i64 .i64 _ _ 0 rfl rfl (by omega) (by omega) (by rw [HI.out.2.2.2]; omega) (by unfold maxLen; omega) HB.out.size ?_; intro w0 own grow; have HGR := Lib.hid grow; clear own grow)))
 go_loopw [14] (fun z1 wr => z1 = .int .i64 0 ∧ wr = w0) (fun _ _ => 0)
 case atStart => exact ⟨rfl, rfl⟩
 case round =>
  obtain ⟨rfl, rfl⟩ := hrel
  go_wp2_with (go_at_call 56; go_loud (refine (sort_none _ _ _ _).mono ?_; rintro e w2 ⟨rfl, rfl⟩))
  go_loopw [27, 5] (fun z1 z2 wr' => z1 = .int .i64 0 ∧ z2 = .slice none 0 0 ∧ wr' = w2) (fun _ _ _ => 0)
  case atStart => exact ⟨rfl, rfl, rfl⟩
  case round =>
   obtain ⟨rfl, rfl, rfl⟩ := hrel
   go_wp2_with fail
   go_ret
   exact ⟨_, [], rfl, rfl, (fun x hx => by cases hx), OwnC.nil _ _, Nat.le_refl _, HB.out.grown HGR.out HB.out.size (fun k hk => by cases hk)⟩
end Go.Proofs.YtmfncapgikobkaaGreat

namespace Go.Proofs.YtmfncapgikobkaaGreat
set_option maxRecDepth 100000
set_option linter.unusedVariables false
set_option linter.unusedSimpArgs false
open Go.RowKit Nds Num
def okC (v : Cv) : Bool := rightI v.sx v.xs && rightI v.sy v.ys
def OfC (l : List Cv) (out : List Nd) (er : Int) : Prop :=
 (l.all okC = false → er = 1 ∧ out = []) ∧ (l.all okC = true → (1329 < leastF (lastF (l.map Cv.cl)) → er = 4 ∧ out = []) ∧ (leastF (lastF (l.map Cv.cl)) ≤ 1329 → er = 0 ∧
  ∃ l' : List Cv, out = (enc (treeZ (leastF (lastF (l.map Cv.cl))) l') []).1 ∧ (l'.map Cv.cn).Perm ((lastF (l.map Cv.cl)).map (shC (p2 (leastF (lastF (l.map Cv.cl)) - 1)))) ∧ HiB (leastF (lastF (l.map Cv.cl))) 0 0 l'))
def RetOf (l : List Cv) (w : World) (e : Ending) (w' : World) : Prop :=
 ∃ v' out er, e = .returned (.tuple #[.agg #[v'], .int .i64 er]) ∧ OwnN w' w.heap.size v' out ∧ Below w.heap.size w w' ∧ OfC l out er
theorem upL_in {c : Cl} : ∀ {lv : Nat}, lv ≤ 1330 → upL c lv ≤ 1329 → inL c (upL c lv) = true := fun {lv} => by
 suffices h : ∀ d lv, lv + d = 1330 → upL c lv ≤ 1329 → inL c (upL c lv) = true from fun hl h1 => h (1330 - lv) lv (by omega) h1
 intro d
 induction d with
 | zero => intro lv he h1; rw [upL_top (by omega)] at h1; omega
 | succ d ih =>
  intro lv he h1
  cases hq : inL c lv with
  | true => rw [upL_stop hq]; exact hq
  | false =>
   rw [upL_next (by omega) hq] at h1 ⊢
   exact ih (lv + 1) (by omega) h1
theorem upL_ge (c : Cl) : ∀ (lv : Nat), lv ≤ 1330 → lv ≤ upL c lv ∧ upL c lv ≤ 1330 := fun lv hl => by
 suffices h : ∀ d lv, lv + d = 1330 → lv ≤ upL c lv ∧ upL c lv ≤ 1330 from h (1330 - lv) lv (by omega)
 intro d
 induction d with
 | zero => intro lv he; rw [upL_top (by omega)]; omega
 | succ d ih =>
  intro lv he
  cases hq : inL c lv with
  | true => rw [upL_stop hq]; omega
  | false =>
   rw [upL_next (by omega) hq]
   have := ih (lv + 1) (by omega)
   omega
theorem inL_up {c : Cl} {a b : Nat} (h : inL c a = true) (hab : a ≤ b) : inL c b = true := by
 unfold inL inH at h ⊢
 simp only [Bool.and_eq_true, decide_eq_true_eq] at h ⊢
 have := p2_mono (show a - 1 ≤ b - 1 by omega)
 omega
theorem least_in : ∀ (l : List Cl) (lv : Nat), lv ≤ 1330 → lv ≤ l.foldl (fun lv c => upL c lv) lv ∧ l.foldl (fun lv c => upL c lv) lv ≤ 1330 ∧ (l.foldl (fun lv c => upL c lv) lv ≤ 1329 → ∀ c ∈ l, inL c (l.foldl (fun lv c => upL c lv) lv) = true)
 | [], lv, h => ⟨Nat.le_refl _, h, fun _ c hc => by cases hc⟩
 | c :: l, lv, h => by
  obtain ⟨g1, g2⟩ := upL_ge c lv h
  obtain ⟨h1, h2, h3⟩ := least_in l (upL c lv) g2
  refine ⟨Nat.le_trans g1 h1, h2, fun h9 d hd => ?_⟩
  rcases List.mem_cons.1 hd with rfl | hd
  ·
   exact inL_up (upL_in h (Nat.le_trans h1 h9)) h1
  ·
   exact h3 h9 d hd
theorem of_state {l out : List Cv} (h : out.map Cv.cl = lastF (l.map Cv.cl)) {x : Cv} (hx : x ∈ out) : 1 ≤ x.st := by
 have hm : x.cl ∈ lastF (l.map Cv.cl) := by rw [← h]; exact List.mem_map_of_mem hx
 have := ((lastF_spec _).2.2 _ hm).1
 have h2 : x.cl.s = x.st := rfl
 omega
theorem of_in {l out : List Cv} (h : out.map Cv.cl = lastF (l.map Cv.cl)) {lv : Nat} (hl : lv = leastF (lastF (l.map Cv.cl))) (h9 : lv ≤ 1329) {x : Cv} (hx : x ∈ out) : inL x.cl lv = true := by
 have hm : x.cl ∈ lastF (l.map Cv.cl) := by rw [← h]; exact List.mem_map_of_mem hx
 have := (least_in (lastF (l.map Cv.cl)) 1 (by omega)).2.2
 unfold leastF at hl
 rw [← hl] at this
 exact this h9 _ hm
theorem of_one {l : List Cl} {lv : Nat} (hl : lv = leastF l) : 1 ≤ lv := by
 have := (least_in l 1 (by omega)).1
 unfold leastF at hl
 omega
end Go.Proofs.YtmfncapgikobkaaGreat

namespace Go.Proofs.YtmfncapgikobkaaGreat
set_option maxRecDepth 100000
set_option linter.unusedVariables false
set_option linter.unusedSimpArgs false
open Go.RowKit Nds Num
theorem stand_all (A : Option Addr) (c n : Nat) (l : List Cv) (w : World) (h : Cs w A c l) (hn : l.length = n) (hR : ∀ v ∈ l, CvR v) (hn9 : n ≤ 900000) :
  Calls Tryz.prog 26 #[.slice A n c] w (RetSt l w) := by
 rcases Nat.eq_zero_or_pos n with h0 | h0
 ·
  subst h0
  rw [List.eq_nil_of_length_eq_zero hn]
  exact standing_zero A c w
 ·
  exact standing_any A c n l w h hn hR h0 hn9
theorem nodes_all (A0 : Option Addr) (c0 n lv : Nat) (l : List Cv) (w : World) (h : Cs w A0 c0 l) (hn : l.length = n) (hn9 : n ≤ 600) (hR : ∀ v ∈ l, CvR v) (hS : ∀ v ∈ l, 1 ≤ v.st) (hI : ∀ v ∈ l, inL v.cl lv = true) (hl1 : 1 ≤ lv) (hl2 : lv ≤ 1329) :
  Calls Tryz.prog 28 #[.slice A0 n c0, .int .i64 (lv : Int)] w (RetNs lv l w) := by
 rcases Nat.eq_zero_or_pos n with h0 | h0
 ·
  subst h0
  rw [List.eq_nil_of_length_eq_zero hn]
  refine (nodes_zero A0 c0 lv w).mono ?_
  rintro e w' ⟨rfl, hb⟩
  refine ⟨_, [], rfl, ?_, List.Perm.refl _, (fun u hu => by cases hu), hb⟩
  rw [treeZ_nil]
  exact ownN_none _ _
 ·
  exact nodes_any A0 c0 n lv l w h hn h0 hn9 hR hS hI hl1 hl2
theorem right_canonC {s : Bool} {xs : List Nat} (h : rightI s xs = true) : CanonI s xs := by
 unfold rightI at h
 rw [Bool.and_eq_true] at h
 refine ⟨?_, fun hs e => ?_⟩
 ·
  have h1 := h.1
  simp [rightB] at h1
  unfold Canon
  rw [List.getLast?_eq_getElem?]
  intro e
  rcases h1 with rfl | h1
  ·
   simp at e
  ·
   rw [e] at h1
   exact h1 rfl
 ·
  subst hs e
  simp at h
theorem no_arg {l : List Cv} {w0 wr w5 : World} {x : Cv} (hbb : Below w0.heap.size w0 wr) (hb5 : Below wr.heap.size wr w5) (hx : x ∈ l) (hok : okC x = false) :
  RetOf l w0 (.returned (.tuple #[.agg #[.slice none 0 0], .int .i64 1])) (w5.setCell ⟨w0.heap.size, 0, none⟩ (.slice none 0 0)) := by
 refine ⟨_, [], 1, rfl, ownN_none _ _, (hbb.trans (hb5.mono hbb.size)).setCell (Nat.le_refl _) _, fun _ => ⟨rfl, rfl⟩, fun h => ?_⟩
 have := List.all_eq_true.1 h x hx
 rw [hok] at this
 cases this
set_option maxRecDepth 100000 in
set_option maxHeartbeats 800000 in
theorem cof_any (A : Option Addr) (c n : Nat) (l : List Cv) (w : World) (h : Cs w A c l) (hn : l.length = n) (hn9 : n ≤ 600) (hln : ∀ v ∈ l, v.xs.length ≤ 60000 ∧ v.ys.length ≤ 60000) :
  Calls Tryz.prog 9 #[.slice A n c] w (RetOf l w) := by
 have hcap := h.cap
 rw [hn] at hcap
 obtain ⟨W, hW⟩ : ∃ W : World, W = w.alloc (.cells #[.slice none 0 0] 27) := ⟨_, rfl⟩
 have hb : Below w.heap.size w W := by rw [hW]; exact (Below.refl _ w).alloc (Nat.le_refl _) _
 have hq : W.heap[w.heap.size]? = some (.cells #[.slice none 0 0] 27) := by rw [hW]; exact heap_alloc_new w _
 have HWL := Lib.hid (show w.heap.size < W.heap.size by rw [hW]; simp)
 have HC := Lib.hid h
 have HN := Lib.hid hn
 have HL := Lib.hid hln
 have HW := Lib.hid hW
 have HB := Lib.hid hb
 have HQ := Lib.hid hq
 clear h hn hln hW hb hq
 go_enter Tryz.func9, Tryz.ntmps9
 go_wp2_with fail
 go_loopw [10] (fun z wr => ∃ (k : Nat), k ≤ n ∧ z = .int .i64 k ∧ (∀ j, j < k → okC (cat l j) = true) ∧ Below w.heap.size w wr ∧ wr.heap[w.heap.size]? = some (.cells #[.slice none 0 0] 27)) (fun z _ => n - (intOf z).toNat)
 case atStart => exact ⟨0, by omega, rfl, fun j hj => by omega, by rw [← HW.out]; exact HB.out, by rw [← HW.out]; exact HQ.out⟩
 case round =>
  obtain ⟨k, hk, rfl, hall, hbb, hqq⟩ := hrel
  have HAL := Lib.hid hall
  have HBB := Lib.hid hbb
  have HQQ := Lib.hid hqq
  have g0 := one_cell hqq
  have g1 := one_free hqq
  by_cases hlt : k < n
  ·
   have i1 : (k : Int) < (n : Int) := by omega
   have i2 : (0 : Int) ≤ (k : Int) := by omega
   have t1 : decide ((k : Int) < (n : Int)) = true := decide_eq_true i1
   obtain ⟨b, off, rfl, hbl, hcl⟩ := (HC.out.below hbb).at_ (by rw [HN.out]; omega)
   obtain ⟨c1_, c2_, c3_, c4_, c5_⟩ := hcl k (by rw [HN.out]; exact hlt)
   have hxl := cat_mem (l := l) (i := k) (by rw [HN.out]; exact hlt)
   have hxu := (HC.out.below hbb).1 _ hxl
   have hln := HL.out _ hxl
   obtain ⟨x, hx⟩ : ∃ x, x = cat l k := ⟨_, rfl⟩
   rw [← hx] at c1_ c2_ c3_ c4_ c5_ hxu hln hxl
   have hv1 := hxu.1.cap
   have hv2 := hxu.2.1.cap
   have HXX := Lib.hid hx
   have HXL := Lib.hid hxl
   have HLN := Lib.hid hln
   have hbA : Below wr.heap.size wr (wr.alloc (.cells #[.bool x.sx, .slice x.ax x.xs.length x.cx, .bool x.sy, .slice x.ay x.ys.length x.cy, .int .u8 x.st] 47)) := (Below.refl _ wr).alloc (Nat.le_refl _) _
   have HBA := Lib.hid hbA
   have HCV := Lib.hid (CvAt.new wr x 47)
   have HXU := Lib.hid (hxu.below hbA)
   have HLA := Lib.hid (show wr.heap.size < (wr.alloc (.cells #[.bool x.sx, .slice x.ax x.xs.length x.cx, .bool x.sy, .slice x.ay x.ys.length x.cy, .int .u8 x.st] 47)).heap.size by simp)
   have hgl := lt_of_cell g0
   dsimp only at hgl
   obtain ⟨rX, hrX⟩ : ∃ r, r = rightI x.sx x.xs := ⟨_, rfl⟩
   obtain ⟨rY, hrY⟩ : ∃ r, r = rightI x.sy x.ys := ⟨_, rfl⟩
   have HRX := Lib.hid hrX
   have HRY := Lib.hid hrY
   have HOK := Lib.hid (show okC x = (rX && rY) by unfold okC; rw [← hrX, ← hrY])
   clear hx hxl hxu hcl hrX hrY hbA hbb hqq hln
   cases rX with
   | false =>
    go_wp2_with (go_at_call 25; go_loud (refine (bright_any x.sx x.ax x.cx x.xs _ HXU.out.1 HLN.out.1).mono ?_; rintro e w5 ⟨rfl, b5⟩; rw [← HRX.out]; have HB5 := Lib.hid (HBA.out.trans (b5.mono HBA.out.size)); have q0 := one_cell ((HB5.out.block w.heap.size hgl).trans HQQ.out); have q1 := one_free ((HB5.out.block w.heap.size hgl).trans HQQ.out); clear b5))
    have e1 := World.cell?_setCell_same _ _ (.slice none 0 0) q0
    exact bodyPost_ret (v := .tuple #[.agg #[.slice none 0 0], .int .i64 1]) (by simp [results, Tryz.results9, go_sem, e1]) rfl (no_arg HBB.out HB5.out HXL.out (HOK.out.trans rfl))
   | true =>
    have sX := Lib.hid True.intro
    cases rY with
    | false =>
     go_wp2_with (first
      | (have _t := sX; go_at_call 25; clear _t; go_loud (clear sX; have sY := Lib.hid True.intro; refine (bright_any x.sx x.ax x.cx x.xs _ HXU.out.1 HLN.out.1).mono ?_; rintro e w5 ⟨rfl, b5⟩; rw [← HRX.out]; have HB5 := Lib.hid (HBA.out.trans (b5.mono HBA.out.size)); have HXU5 := Lib.hid (HXU.out.below b5); obtain ⟨k0_, k1_, k2_, k3_, k4_⟩ := HCV.out.below (b5.block wr.heap.size HLA.out); have q0 := one_cell ((HB5.out.block w.heap.size hgl).trans HQQ.out); have q1 := one_free ((HB5.out.block w.heap.size hgl).trans HQQ.out); clear b5))
      | (have _t := sY; go_at_call 25; clear _t; go_loud (clear sY; refine (bright_any x.sy x.ay x.cy x.ys _ HXU5.out.2.1 HLN.out.2).mono ?_; rintro e w6 ⟨rfl, b6⟩; rw [← HRY.out]; have HB6 := Lib.hid (HB5.out.trans (b6.mono HB5.out.size)); have q0 := one_cell ((HB6.out.block w.heap.size hgl).trans HQQ.out); have q1 := one_free ((HB6.out.block w.heap.size hgl).trans HQQ.out); clear b6)))
     have e1 := World.cell?_setCell_same _ _ (.slice none 0 0) q0
     exact bodyPost_ret (v := .tuple #[.agg #[.slice none 0 0], .int .i64 1]) (by simp [results, Tryz.results9, go_sem, e1]) rfl (no_arg HBB.out HB6.out HXL.out (HOK.out.trans rfl))
    | true =>
     go_wp2_with (first
      | (have _t := sX; go_at_call 25; clear _t; go_loud (clear sX; have sY := Lib.hid True.intro; refine (bright_any x.sx x.ax x.cx x.xs _ HXU.out.1 HLN.out.1).mono ?_; rintro e w5 ⟨rfl, b5⟩; rw [← HRX.out]; have HB5 := Lib.hid (HBA.out.trans (b5.mono HBA.out.size)); have HXU5 := Lib.hid (HXU.out.below b5); obtain ⟨k0_, k1_, k2_, k3_, k4_⟩ := HCV.out.below (b5.block wr.heap.size HLA.out); clear b5))
      | (have _t := sY; go_at_call 25; clear _t; go_loud (clear sY; refine (bright_any x.sy x.ay x.cy x.ys _ HXU5.out.2.1 HLN.out.2).mono ?_; rintro e w6 ⟨rfl, b6⟩; rw [← HRY.out]; have HB6 := Lib.hid (HB5.out.trans (b6.mono HB5.out.size)); clear b6)))
     go_roundw
     case rel => exact ⟨k + 1, by omega, by go_num, fun j hj => by
      rcases Nat.lt_or_ge j k with h | h
      ·
       exact HAL.out j h
      ·
       have : j = k := by omega
       subst this
       rw [← HXX.out, HOK.out]; rfl, HBB.out.trans (HB6.out.mono HBB.out.size), (HB6.out.block w.heap.size hgl).trans HQQ.out⟩
     case measure => simp [intOf]; omega
  ·
   obtain rfl : k = n := by omega
   have t1 : decide ((k : Int) < (k : Int)) = false := decide_eq_false (by omega)
   have hok : l.all okC = true := List.all_eq_true.2 fun v hv => by
    obtain ⟨j, hj, rfl⟩ := List.getElem_of_mem hv
    have := hall j (by have := HN.out; omega)
    rwa [cat_get hj] at this
   have hR : ∀ v ∈ l, CvR v := fun v hv => by
    have h1 := List.all_eq_true.1 hok v hv
    unfold okC at h1
    obtain ⟨h2, h3⟩ := Bool.and_eq_true_iff.1 h1
    exact ⟨right_canonC h2, right_canonC h3, HL.out v hv⟩
   have HR := Lib.hid hR
   have HOKL := Lib.hid hok
   clear hR hok hall hbb hqq
   have hgl := lt_of_cell g0
   dsimp only at hgl
   obtain ⟨lv, hlv⟩ : ∃ lv, lv = leastF (lastF (l.map Cv.cl)) := ⟨_, rfl⟩
   have HLV := Lib.hid hlv
   clear hlv
   by_cases hbig : 1329 < lv
   ·
    have t2 : decide ((1329 : Int) < (lv : Int)) = true := decide_eq_true (by omega)
    go_wp2_with (first
     | (go_at_call 26; go_loud (refine (stand_all A c k l _ (HC.out.below HBB.out) HN.out HR.out (by omega)).mono ?_; rintro e w5 ⟨v, out, rfl, o1, o2, o3, o4, b5⟩; have hU5 : ∀ x ∈ out, CvU w5 x := (fun x hx => (((HC.out.below HBB.out).below b5).1 x (o2 x hx))); obtain ⟨A1, c1, rfl, hcs, _, _⟩ := o3.cs hU5; have hcap1 := hcs.cap; have HS := Lib.hid hcs; have HO1 := Lib.hid o1; have HO2 := Lib.hid o2; have HO4 := Lib.hid o4; have HB5 := Lib.hid b5; have q0 := one_cell ((b5.block w.heap.size hgl).trans HQQ.out); have q1 := one_free ((b5.block w.heap.size hgl).trans HQQ.out); clear o1 o2 o3 o4 b5 hcs hU5))
     | (go_at_call 27; go_loud (refine (least_any A1 c1 out.length out _ HS.out rfl (fun x hx => HR.out x (HO2.out x hx)) (by have := HO4.out; have := HN.out; omega)).mono ?_; rintro e w6 ⟨rfl, b6⟩; rw [HO1.out, ← HLV.out]; have HB6 := Lib.hid b6; have q0 := one_cell ((b6.block w.heap.size (Nat.lt_of_lt_of_le hgl HB5.out.size)).trans ((HB5.out.block w.heap.size hgl).trans HQQ.out)); have q1 := one_free ((b6.block w.heap.size (Nat.lt_of_lt_of_le hgl HB5.out.size)).trans ((HB5.out.block w.heap.size hgl).trans HQQ.out)); clear b6)))
    have e1 := World.cell?_setCell_same _ _ (.slice none 0 0) q0
    refine bodyPost_ret (v := .tuple #[.agg #[.slice none 0 0], .int .i64 4]) (by simp [results, Tryz.results9, go_sem, e1]) rfl ?_
    have hW6 : Below w.heap.size w w6 := (HBB.out.trans (HB5.out.mono HBB.out.size)).trans (HB6.out.mono (Nat.le_trans HBB.out.size HB5.out.size))
    refine ⟨_, [], 4, rfl, ownN_none _ _, hW6.setCell (Nat.le_refl _) _, fun h => ?_, fun _ => ⟨fun _ => ⟨rfl, rfl⟩, fun h => ?_⟩⟩
    ·
     rw [HOKL.out] at h; cases h
    ·
     have := HLV.out; omega
   ·
    have t2 : decide ((1329 : Int) < (lv : Int)) = false := decide_eq_false (by omega)
    go_wp2_with (first
     | (go_at_call 26; go_loud (refine (stand_all A c k l _ (HC.out.below HBB.out) HN.out HR.out (by omega)).mono ?_; rintro e w5 ⟨v, out, rfl, o1, o2, o3, o4, b5⟩; have hU5 : ∀ x ∈ out, CvU w5 x := (fun x hx => (((HC.out.below HBB.out).below b5).1 x (o2 x hx))); obtain ⟨A1, c1, rfl, hcs, _, _⟩ := o3.cs hU5; have hcap1 := hcs.cap; have HS := Lib.hid hcs; have HO1 := Lib.hid o1; have HO2 := Lib.hid o2; have HO4 := Lib.hid o4; have HB5 := Lib.hid b5; have q0 := one_cell ((b5.block w.heap.size hgl).trans HQQ.out); have q1 := one_free ((b5.block w.heap.size hgl).trans HQQ.out); clear o1 o2 o3 o4 b5 hcs hU5))
     | (go_at_call 27; go_loud (refine (least_any A1 c1 out.length out _ HS.out rfl (fun x hx => HR.out x (HO2.out x hx)) (by have := HO4.out; have := HN.out; omega)).mono ?_; rintro e w6 ⟨rfl, b6⟩; rw [HO1.out, ← HLV.out]; have HB6 := Lib.hid b6; have q0 := one_cell ((b6.block w.heap.size (Nat.lt_of_lt_of_le hgl HB5.out.size)).trans ((HB5.out.block w.heap.size hgl).trans HQQ.out)); have q1 := one_free ((b6.block w.heap.size (Nat.lt_of_lt_of_le hgl HB5.out.size)).trans ((HB5.out.block w.heap.size hgl).trans HQQ.out)); clear b6))
     | (go_at_call 28; go_loud (have h1 := HS.out.below HB6.out; have h2 : out.length ≤ 600 := (by have := HO4.out; have := HN.out; omega); have h3 : ∀ v ∈ out, CvR v := (fun x hx => HR.out x (HO2.out x hx)); have h4 : ∀ v ∈ out, 1 ≤ v.st := (fun x hx => of_state HO1.out hx); have h9 : lv ≤ 1329 := (by omega); have h5 : ∀ v ∈ out, inL v.cl lv = true := (fun x hx => of_in HO1.out HLV.out h9 hx); have h6 := of_one HLV.out; have HC7 := Lib.hid (nodes_all A1 c1 out.length lv out w6 h1 rfl h2 h3 h4 h5 h6 h9); clear h1 h2 h3 h4 h5 h6 h9; refine HC7.out.mono ?_; rintro e w7 ⟨v7, l7, rfl, p1, p2, p3, b7⟩; obtain ⟨A7, c7, hv7, hN7, -, -⟩ := p1.shape; obtain ⟨n7, hn7⟩ : ∃ n, n = (enc (treeZ lv l7) []).1.length := ⟨_, rfl⟩; rw [← hn7] at hv7; subst hv7; have hc7 := hN7.cap; rw [← hn7] at hc7; clear hN7 hn7; have HP1 := Lib.hid p1; have HP2 := Lib.hid p2; have HP3 := Lib.hid p3; have HB7 := Lib.hid b7; have q0 := one_cell ((b7.block w.heap.size (Nat.lt_of_lt_of_le hgl (Nat.le_trans HB5.out.size HB6.out.size))).trans ((HB6.out.block w.heap.size (Nat.lt_of_lt_of_le hgl HB5.out.size)).trans ((HB5.out.block w.heap.size hgl).trans HQQ.out))); have q1 := one_free ((b7.block w.heap.size (Nat.lt_of_lt_of_le hgl (Nat.le_trans HB5.out.size HB6.out.size))).trans ((HB6.out.block w.heap.size (Nat.lt_of_lt_of_le hgl HB5.out.size)).trans ((HB5.out.block w.heap.size hgl).trans HQQ.out))); clear p1 p2 p3 b7)))
    have hset := heap_setCell_same w7 w.heap.size 0 _ _ (.slice A7 n7 c7) ((HB7.out.block w.heap.size (Nat.lt_of_lt_of_le hgl (Nat.le_trans HB5.out.size HB6.out.size))).trans ((HB6.out.block w.heap.size (Nat.lt_of_lt_of_le hgl HB5.out.size)).trans ((HB5.out.block w.heap.size hgl).trans HQQ.out)))
    have e1 : (w7.setCell ⟨w.heap.size, 0, none⟩ (.slice A7 n7 c7)).cell? ⟨w.heap.size, 0, none⟩ = some (.slice A7 n7 c7) := World.cell?_setCell_same _ _ (.slice A7 n7 c7) q0
    refine bodyPost_ret (v := .tuple #[.agg #[.slice A7 n7 c7], .int .i64 0]) (by simp [results, Tryz.results9, go_sem, e1]) rfl ?_
    have hs56 := Nat.le_trans HB5.out.size HB6.out.size
    have hW7 : Below w.heap.size w w7 := ((HBB.out.trans (HB5.out.mono HBB.out.size)).trans (HB6.out.mono (Nat.le_trans HBB.out.size HB5.out.size))).trans (HB7.out.mono (Nat.le_trans HBB.out.size hs56))
    refine ⟨_, _, 0, rfl, (HP1.out.gbr (gb_setCell w7 ⟨w.heap.size, 0, none⟩ (.slice A7 n7 c7)) (own_dec (fun q hq e => ?_))).lowC (Nat.le_trans HBB.out.size hs56), hW7.setCell (Nat.le_refl _) _, fun h => ?_, fun _ => ⟨fun h => ?_, fun _ => ⟨rfl, l7, ?_, ?_, ?_⟩⟩⟩
    ·
     have h1 := (HP1.out.lt q hq).1
     have h2 := Option.some.inj e
     dsimp only at h2
     omega
    ·
     rw [HOKL.out] at h; cases h
    ·
     rw [← HLV.out] at h; omega
    ·
     rw [← HLV.out]
    ·
     rw [← HLV.out, ← HO1.out, List.map_map]
     exact HP2.out
    ·
     rw [← HLV.out]
     exact HP3.out
end Go.Proofs.YtmfncapgikobkaaGreat

namespace Go.Proofs.YtmfncapgikobkaaGreat
set_option maxRecDepth 100000
set_option linter.unusedVariables false
set_option linter.unusedSimpArgs false
open Nds
theorem upL_le {c : Cl} {k : Nat} (h : inL c k = true) : ∀ (d lv : Nat), lv + d = k → upL c lv ≤ k
 | 0, lv, e => by
  obtain rfl : lv = k := by omega
  rw [upL_stop h]
  exact Nat.le_refl _
 | d + 1, lv, e => by
  by_cases h9 : lv ≤ 1329
  ·
   cases hq : inL c lv with
   | true => rw [upL_stop hq]; omega
   | false => rw [upL_next h9 hq]; exact upL_le h d (lv + 1) (by omega)
  ·
   rw [upL_top h9]; omega
theorem foldU_le {k : Nat} : ∀ (l : List Cl) (lv : Nat), lv ≤ k → (∀ c ∈ l, inL c k = true) → l.foldl (fun lv c => upL c lv) lv ≤ k
 | [], lv, h, _ => h
 | c :: l, lv, h, hi => foldU_le l _ (upL_le (hi c (by simp)) (k - lv) lv (by omega)) fun d hd => hi d (by simp [hd])
theorem least_le {l : List Cl} {k : Nat} (hk : 1 ≤ k) (h : ∀ c ∈ l, inL c k = true) : leastF l ≤ k := foldU_le l 1 hk h
theorem lk_shift (h : Int) : ∀ (l : List Cl) (x y : Int), lk (l.map (shC h)) x y = lk l (x - h) (y - h)
 | [], _, _ => rfl
 | c :: l, x, y => by
  rw [List.map_cons]
  unfold lk
  rw [lk_shift h l x y]
  have e1 : (shC h c).x = c.x + h := rfl
  have e2 : (shC h c).y = c.y + h := rfl
  have e3 : (shC h c).s = c.s := rfl
  by_cases hc : c.x = x - h ∧ c.y = y - h
  ·
   rw [if_pos hc, if_pos (by rw [e1, e2]; omega), e3]
  ·
   rw [if_neg hc, if_neg (by rw [e1, e2]; omega)]
theorem mk_form (v : Int) (a b c d : Tr) : mk v a b c d = .e ∨ mk v a b c d = .n v a b c d := by
 unfold mk
 split
 ·
  exact .inl rfl
 ·
  exact .inr rfl
theorem of_quadOf {L : List Cl} (hs : Srt L) (hst : ∀ c ∈ L, 1 ≤ c.s ∧ c.s ≤ 255) {lv : Nat} (hlv : lv = leastF L) (h9 : lv ≤ 1329) {l' : List Cv} (hp : (l'.map Cv.cn).Perm (L.map (shC (p2 (lv - 1))))) (hb : HiB lv 0 0 l') :
  QuadOf L (enc (treeZ lv l') []).1 := by
 obtain ⟨m, rfl⟩ : ∃ m, lv = m + 1 := ⟨lv - 1, by have := of_one hlv; omega⟩
 rw [Nat.add_sub_cancel] at hp
 have hun : (L.map (shC (p2 m))).Pairwise (fun a b => ¬ (a.x = b.x ∧ a.y = b.y)) := by
  rw [List.pairwise_map]
  refine (srt_unlike hs).imp fun {a b} h e => h ⟨?_, ?_⟩
  ·
   have := e.1
   simp only [shC] at this
   omega
  ·
   have := e.2
   simp only [shC] at this
   omega
 have hun' := unlike_perm hp.symm hun
 have hst' : ∀ v ∈ l', 1 ≤ v.st ∧ v.st ≤ 255 := fun v hv => by
  obtain ⟨c, hc, e⟩ := List.mem_map.1 (hp.mem_iff.1 (List.mem_map_of_mem hv))
  have h1 := hst c hc
  have h2 : c.s = (v.st : Int) := congrArg Cl.s e
  omega
 have hw := treeZ_wf (m + 1) l' h9 hst'
 have hc : ∀ x y, cellC (treeZ (m + 1) l') x y = lk L (x - p2 m) (y - p2 m) := fun x y => by
  rw [treeZ_cells (m + 1) l' 0 0 h9 hst' hb hun', lk_perm hun' hun hp, lk_shift]
  congr 1 <;> omega
 obtain ⟨t, ht⟩ : ∃ t, t = treeZ (m + 1) l' := ⟨_, rfl⟩
 have hf : t = .e ∨ ∃ a b c d, t = .n ((m : Int) + 1) a b c d := by
  rw [ht]
  rcases mk_form ((m : Int) + 1) (treeZ m (l'.filter (inQ m 0))) (treeZ m (l'.filter (inQ m 1))) (treeZ m (l'.filter (inQ m 2))) (treeZ m (l'.filter (inQ m 3))) with h | h
  ·
   exact .inl h
  ·
   exact .inr ⟨_, _, _, _, h⟩
 rw [← ht] at hw hc ⊢
 have hM : ∀ x y, cellM t x y = lk L x y := fun x y => by
  have h1 := hc (x + p2 m) (y + p2 m)
  rw [show x + p2 m - p2 m = x by omega, show y + p2 m - p2 m = y by omega] at h1
  rw [← h1]
  rcases hf with rfl | ⟨a, b, c, d, rfl⟩
  ·
   rfl
  ·
   unfold cellM
   have e : (Tr.n ((m : Int) + 1) a b c d).lv.toNat - 1 = m := by
    show ((m : Int) + 1).toNat - 1 = m
    omega
   rw [e]
 refine ⟨t, m + 1, hw, fun k e => ?_, ?_, rfl, hM⟩
 ·
  rcases hf with h | ⟨a, b, c, d, h⟩ <;> rw [h] at e <;> cases e
 ·
  cases hh : holT t with
  | false => rfl
  | true =>
   exfalso
   obtain ⟨h1, _⟩ := hol_iff.1 hh
   rcases hf with rfl | ⟨a, b, c2, d, rfl⟩
   ·
    simp [Tr.lv] at h1
   ·
    have hl : ((m : Int) + 1) = (m : Int) + 1 := rfl
    have h1' : 1 < (m : Int) + 1 := h1
    obtain ⟨k, rfl⟩ : ∃ k, m = k + 1 := ⟨m - 1, by omega⟩
    have hwi := wf_inn hw hh
    have hni : wfT ((k + 1 : Nat) : Int) (innT (.n (((k + 1 : Nat) : Int) + 1) a b c2 d)) := by
     rwa [show (((k + 1 + 1 : Nat) : Int) - 1) = ((k + 1 : Nat) : Int) by omega] at hwi
    have hle := least_le (l := L) (k := k + 1) (by omega) fun c hcL => by
     have h2 := fine_lk (srt_unlike hs) hcL
     have h3 := (hst c hcL).1
     have h4 := hol_cells hw hh c.x c.y
     rw [hM, h2] at h4
     have hlv : (innT (.n (((k + 1 : Nat) : Int) + 1) a b c2 d)).lv.toNat - 1 = k := by
      rcases inn_lv (.n (((k + 1 : Nat) : Int) + 1) a b c2 d) with e | e
      ·
       exact absurd e (inn_ne hw hh)
      ·
       rw [e]
       show ((((k + 1 : Nat) : Int) + 1) - 1).toNat - 1 = k
       omega
     unfold cellM at h4
     rw [hlv] at h4
     have h5 := cell_in _ (k + 1) _ _ hni (by rw [h4]; omega)
     have h6 := p2_succ k
     unfold inL inH
     simp only [Bool.and_eq_true, decide_eq_true_eq, Nat.add_sub_cancel]
     omega
    omega
theorem OfC.quad {l : List Cv} {out : List Nd} {er : Int} (h : OfC l out er) (hok : l.all okC = true) (hst : ∀ v ∈ l, v.st ≤ 255) (h9 : leastF (lastF (l.map Cv.cl)) ≤ 1329) : er = 0 ∧ QuadOf (lastF (l.map Cv.cl)) out := by
 obtain ⟨e, l', rfl, hp, hb⟩ := (h.2 hok).2 h9
 refine ⟨e, of_quadOf (lastF_srt _) (lastF_fine fun c hc => ?_).1 rfl h9 hp hb⟩
 obtain ⟨v, hv, rfl⟩ := List.mem_map.1 hc
 have := hst v hv
 show 0 ≤ (v.st : Int) ∧ (v.st : Int) ≤ 255
 omega
end Go.Proofs.YtmfncapgikobkaaGreat

namespace Go.Proofs.YtmfncapgikobkaaGreat
set_option maxRecDepth 100000
set_option linter.unusedVariables false
set_option linter.unusedSimpArgs false
open Go.RowKit Nds Num
structure RcW (w : World) (n : Nat) (l : List Nd) (gr : Nat) (L : List Gv) (i : Nat) (m : Int) (W : World) : Prop where
 b : Below w.heap.size w W
 row : OwnG W w.heap.size gr (n + 1) L
 fine : ∀ j, j ≤ i → GIn W (gat L j) (countT (den l j) : Nat)
 now : i < n → GIn W (gat L (i + 1)) m
 zero : ∀ j, i + 1 < j → j ≤ n → gat L j = gv0
theorem RcW.next {w : World} {n : Nat} {l : List Nd} {gr : Nat} {L : List Gv} {i : Nat} {m : Int} {W W1 : World} (h : RcW w n l gr L i m W) (k : Below W.heap.size W W1) : RcW w n l gr L i m W1 :=
 ⟨h.b.trans (k.mono h.b.size), h.row.next k, fun j hj => (h.fine j hj).next k, fun e => (h.now e).next k, h.zero⟩
theorem RcW.put {w : World} {n : Nat} {l : List Nd} {gr : Nat} {L : List Gv} {i : Nat} {m m2 : Int} {W : World} (h : RcW w n l gr L i m W) (hi : i < n) {s : Bool} {B : Option Addr} {d : Nat} {xs : List Nat} (hu : Us W B d xs) (hc : CanonI s xs) (hv : ival s xs = m2) :
  RcW w n l gr (L.set (i + 1) ⟨s, B, d, xs⟩) i m2 ((W.setCell ⟨gr, (i + 1) * 2, none⟩ (.bool s)).setCell ⟨gr, (i + 1) * 2 + 1, none⟩ (.slice B xs.length d)) := by
 have hg := setC_two W gr ((i + 1) * 2) ((i + 1) * 2 + 1) (.bool s) (.slice B xs.length d)
 obtain ⟨r1, r2, r3, r4, r5⟩ := h.row.row
 refine ⟨h.b.grown hg h.b.size (fun q e => by cases e; exact r1), h.row.put (by omega) ⟨s, B, d, xs⟩, fun j hj => ?_, fun _ => ?_, fun j hj hn => ?_⟩
 ·
  rw [gat_set_ne (by omega)]
  exact (h.fine j hj).over r5 hg
 ·
  rw [gat_set_same (by rw [h.row.1]; omega)]
  exact ⟨us_kept hu (fun q h1 h2 => hg.block q h1 (fun e => h2 (by cases e; rfl))) hg.size (us_off hu r5), hc, hv⟩
 ·
  rw [gat_set_ne (by omega)]
  exact h.zero j hj hn
theorem RcW.nowI {w : World} {n : Nat} {l : List Nd} {gr : Nat} {L : List Gv} {i ip : Nat} {m : Int} {W : World} (h : RcW w n l gr L i m W) (hi : i < n) (hp : ip = i + 1) : GIn W (gat L ip) m := hp ▸ h.now hi
theorem RcW.step {w : World} {n : Nat} {l : List Nd} {gr : Nat} {L : List Gv} {i : Nat} {W : World} (h : RcW w n l gr L i (countT (den l (i + 1)) : Nat) W) (hi : i < n) : RcW w n l gr L (i + 1) 0 W :=
 ⟨h.b, h.row, fun j hj => by
  rcases Nat.lt_or_ge i j with h1 | h1
  ·
   rw [show j = i + 1 by omega]; exact h.now hi
  ·
   exact h.fine j h1, fun hn => by rw [h.zero (i + 1 + 1) (by omega) (by omega)]; exact GIn.zero W, fun j hj hn => h.zero j (by omega) hn⟩
set_option maxRecDepth 100000 in
set_option maxHeartbeats 3200000 in
theorem rcounts_any (A : Option Addr) (c n : Nat) (l : List Nd) (w : World) (h : Ns w A c l) (hn : l.length = n) (hl : looseB l = true) (hn9 : n ≤ 900000) :
  Calls Tryz.prog 50 #[.slice A n c] w fun e w' => ∃ gr L, e = .returned (.slice (some ⟨gr, 0, none⟩) (n + 1) (n + 1)) ∧ RcW w n l gr L n 0 w' := by
 have hcap := h.cap
 rw [hn] at hcap
 obtain ⟨M, hM⟩ : ∃ M, M = 1329 := ⟨_, rfl⟩
 have HM := Lib.hid hM
 have hlenOf : ∀ {s : Bool} {xs : List Nat} {m : Nat}, CanonI s xs → ival s xs = (m : Int) → m ≤ 4 ^ M → xs.length ≤ 100 := fun hc hv hm => count_len hc hv HM.out hm
 clear hM
 obtain ⟨i0, hi, hz0, hz1, hz2⟩ := info_parts Tryz.infoG
 have HI := Lib.hid (And.intro hi (And.intro hz0 (And.intro hz1 hz2)))
 have HN := Lib.hid h
 have HL := Lib.hid hn
 have HLL := Lib.hid hl
 clear h hn hl hi hz0 hz1 hz2
 go_enter Tryz.func50, Tryz.ntmps50
 go_wp2_with (first
  | (at_make; go_loud (refine wpList_make_full _ rfl _ _ 82 rfl w.heap.size 42 i0 _ 2 Tryz.underlying82 HI.out.1 HI.out.2.1 HI.out.2.2.1 .i64 .i64 _ _ (n + 1) rfl rfl (by omega) (by omega) (by rw [HI.out.2.2.2]; omega) (by unfold maxLen; omega) (Nat.le_refl _) ?_; intro w0 hown0 hgrow0; have hb0 : Below w.heap.size w w0 := (Below.refl _ _).grown hgrow0 (Nat.le_refl _) (fun k hk => by cases hk); have own0 := Lib.hid (OwnG.made hown0); have HB0 := Lib.hid hb0; clear hown0 hgrow0 hb0)))
 have S0 := Lib.hid (show RcW w n l w.heap.size (List.replicate (n + 1) gv0) 0 0 w0 from
  ⟨HB0.out, own0.out, fun j hj => by
   rw [show j = 0 by omega, den_zero, show gat (List.replicate (n + 1) gv0) 0 = gv0 from rfl]
   exact GIn.zero _, fun hn => by
   rw [show gat (List.replicate (n + 1) gv0) (0 + 1) = gv0 by unfold gat; rw [List.getElem?_replicate, if_pos (by omega)]; rfl]
   exact GIn.zero _, fun j hj hn => by unfold gat; rw [List.getElem?_replicate, if_pos (by omega)]; rfl⟩)
 obtain ⟨gr, hgr⟩ : ∃ g, g = w.heap.size := ⟨_, rfl⟩
 have HGR := Lib.hid hgr
 rw [← hgr] at S0 ⊢
 clear hgr own0
 go_loopw [4] (fun z wr => ∃ (i : Nat) (L : List Gv), i ≤ n ∧ z = .int .i64 i ∧ RcW w n l gr L i 0 wr) (fun z _ => n - (intOf z).toNat)
 case atStart => exact ⟨0, _, Nat.zero_le _, rfl, S0.out⟩
 case round =>
  obtain ⟨i, L, hin, rfl, R⟩ := hrel
  have RR := Lib.hid R
  by_cases hlt : i < n
  ·
   have i1 : (i : Int) < (n : Int) := by omega
   have i2 : (0 : Int) ≤ (i : Int) := by omega
   have t1 : decide ((i : Int) < (n : Int)) = true := decide_eq_true i1
   obtain ⟨b, off, rfl, hbl, hcl⟩ := (HN.out.below R.b).at_ (by rw [HL.out]; omega)
   have HLT := Lib.hid hlt
   clear R hcl
   go_wp2_with fail
   go_loopw [5] (fun z wi => ∃ (k : Nat) (L : List Gv), k ≤ 4 ∧ z = .int .i64 k ∧ RcW w n l gr L i (cntK l (at_ l i) k : Nat) wi) (fun z _ => 4 - (intOf z).toNat)
   case atStart => exact ⟨0, L, by omega, rfl, RR.out⟩
   case round =>
    obtain ⟨k, L, hk, rfl, R⟩ := hrel
    have RI := Lib.hid R
    clear R
    by_cases hlt : k < 4
    ·
     obtain ⟨b', off', e', -, hcl⟩ := (HN.out.below RI.out.b).at_ (by rw [HL.out]; omega)
     cases e'
     have hnd := hcl i (by rw [HL.out]; exact HLT.out)
     have hkid := hnd.kid hlt
     obtain ⟨c1_, -, -, -, -⟩ := hnd
     have hfx := loose_iff.1 HLL.out i (by rw [HL.out]; exact HLT.out)
     have hfk := fit_kid hfx hlt
     obtain ⟨v, hv⟩ : ∃ v, v = (at_ l i).lv := ⟨_, rfl⟩
     obtain ⟨y, hy⟩ : ∃ y, y = (at_ l i).kid k := ⟨_, rfl⟩
     rw [← hy] at hkid hfk
     rw [← hv] at c1_ hfk
     have hvl := fit_lv hfx
     rw [← hv] at hvl
     have HY := Lib.hid hy
     have HV_ := Lib.hid hv
     have HFK := Lib.hid hfk
     have j0 : (0 : Int) ≤ (k : Int) := by omega
     have j00 : (k : Int) < 4 := by omega
     have t1 : decide ((k : Int) < 4) = true := decide_eq_true j00
     obtain ⟨ip, hip⟩ : ∃ p, p = i + 1 := ⟨_, rfl⟩
     have j1 : IntKind.i64.wrap ((i : Int) + 1) = (ip : Int) := by rw [show (i : Int) + 1 = (ip : Int) by omega]; simp [IntKind.wrap, IntKind.bits, IntKind.signed]; omega
     have j2 : (0 : Int) ≤ (ip : Int) := by omega
     have j3 : (ip : Int) < (n : Int) + 1 := by omega
     obtain ⟨g1, hg1⟩ : ∃ g, gat L ip = g := ⟨_, rfl⟩
     have hG1 := RI.out.now HLT.out
     rw [← hip, hg1] at hG1
     have hl1 := hlenOf hG1.cn hG1.v (cntK_small HLL.out (by rw [HL.out]; exact HLT.out) (Nat.le_of_lt hlt) HM.out)
     have HG1 := Lib.hid hg1
     have HV1 := Lib.hid hG1.v
     have hcg1 := hG1.us.cap
     have HIP := Lib.hid hip
     clear hcl hfx hfk hy hv hG1 hg1
     by_cases hlv : 1 < v
     ·
      have t2 : decide (v > 1) = true := decide_eq_true hlv
      obtain ⟨q, rfl, hq⟩ : ∃ q : Nat, y = (q : Int) ∧ q ≤ i := by
       rcases kid_up (by omega) HFK.out with h | ⟨q, h1, h2, _⟩
       ·
        exact ⟨0, h, Nat.zero_le _⟩
       ·
        have := List.length_take_le i l
        exact ⟨q + 1, by omega, by omega⟩
      have HS := Lib.hid (show cntK l (at_ l i) (k + 1) = cntK l (at_ l i) k + countT (den l q) by
       show cntK l (at_ l i) k + countT (kidT (dens l) (at_ l i).lv ((at_ l i).kid k)) = _
       rw [← HY.out, ← HV_.out, kidT_den (by omega), Int.toNat_natCast])
      obtain ⟨g2, hg2⟩ : ∃ g, gat L q = g := ⟨_, rfl⟩
      have hG2 := RI.out.fine q hq
      rw [hg2] at hG2
      have hl2 := hlenOf hG2.cn hG2.v (count_small HLL.out (by rw [HL.out]; omega) HM.out)
      have HG2 := Lib.hid hg2
      have HV2 := Lib.hid hG2.v
      have hcg2 := hG2.us.cap
      have j4 : (0 : Int) ≤ (q : Int) := by omega
      have j5 : (q : Int) < (n : Int) + 1 := by omega
      have hl1 : g1.xs.length ≤ 60000 := by omega
      have hl2 : g2.xs.length ≤ 60000 := by omega
      clear hG2 hg2 hip
      go_wp2_with fail
      clear hkid c1_
      -- region 10
      refine wp_region_noPanic ?_
      refine wp_region_held (S := fun _ => True) (by kernel_rfl) ?_
      obtain ⟨W0, hW0⟩ : ∃ W0 : World, W0 = wr.drew := ⟨_, rfl⟩
      have R0 := Lib.hid (show RcW w n l gr L i (cntK l (at_ l i) k : Nat) W0 by rw [hW0]; exact RI.out.next (below_drewN (Below.refl _ wr) 1))
      obtain ⟨r1, r2, r3, r4, r5⟩ := R0.out.row.row
      obtain ⟨a1, a2⟩ := r3 ip (by omega)
      rw [HG1.out] at a1 a2
      obtain ⟨b1_, b2_⟩ := r3 q (by omega)
      rw [HG2.out] at b1_ b2_
      change wpAnyH _ _ _ _ _ _ _ _ wr.drew
      rw [← hW0]
      clear hW0 r1 r2 r3 r4 r5
      refine wpAnyH_take (i := 0) (v := ?_) rfl (by kernel_rfl) (by kernel_rfl) (by kernel_rfl) (fun _ _ _ h => h) (Or.inl ⟨by rfl, ?_⟩) trivial ?_
      rotate_left
      ·
       intro w' s1_
       go_simp
       first | done | with_reducible rfl | rfl
      simp only [Act.put, LA]
      refine wpAnyH_take (i := 1) (v := ?_) rfl (by kernel_rfl) (by kernel_rfl) (by kernel_rfl) (fun _ _ _ h => h) (Or.inl ⟨by rfl, ?_⟩) trivial ?_
      rotate_left
      ·
       intro w' s1_
       go_simp
       first | done | with_reducible rfl | rfl
      simp only [Act.put, LA]
      refine wpAnyH_take (i := 2) (v := ?_) rfl (by kernel_rfl) (by kernel_rfl) (by kernel_rfl) (fun _ _ _ h => h) (Or.inl ⟨by rfl, ?_⟩) trivial ?_
      rotate_left
      ·
       intro w' s1_
       go_simp
       first | done | with_reducible rfl | rfl
      simp only [Act.put, LA]
      refine wpAnyH_take (i := 3) (v := ?_) rfl (by kernel_rfl) (by kernel_rfl) (by kernel_rfl) (fun _ _ _ h => h) (Or.inl ⟨by rfl, ?_⟩) trivial ?_
      rotate_left
      ·
       intro w' s1_
       go_simp
       first | done | with_reducible rfl | rfl
      simp only [Act.put, LA]
      refine wpAnyH_take (i := 4) (v := ?_) rfl (by kernel_rfl) (by kernel_rfl) (by kernel_rfl) (fun _ _ _ h => h) (Or.inl ⟨by rfl, ?_⟩) trivial ?_
      rotate_left
      ·
       intro w' s1_
       go_simp
       first | done | with_reducible rfl | rfl
      simp only [Act.put, LA]
      refine wpAnyH_take (i := 5) (v := ?_) rfl (by kernel_rfl) (by kernel_rfl) (by kernel_rfl) (fun _ _ _ h => h) (Or.inl ⟨by rfl, ?_⟩) trivial ?_
      rotate_left
      ·
       intro w' s1_
       go_simp
       first | done | with_reducible rfl | rfl
      simp only [Act.put, LA]
      refine wpAnyH_take (i := 6) (v := ?_) rfl (by kernel_rfl) (by kernel_rfl) (by kernel_rfl) (fun _ _ _ h => h) (Or.inl ⟨by rfl, ?_⟩) trivial ?_
      rotate_left
      ·
       intro w' s1_
       go_simp
       first | done | with_reducible rfl | rfl
      simp only [Act.put, LA]
      refine wpAnyH_take (i := 8) (v := ?_) rfl (by kernel_rfl) (by kernel_rfl) (by kernel_rfl) (fun _ _ _ h => h) (Or.inl ⟨by rfl, ?_⟩) trivial ?_
      rotate_left
      ·
       intro w' s1_
       go_simp
       first | done | with_reducible rfl | rfl
      simp only [Act.put, LA]
      refine wpAnyH_take (i := 9) (v := ?_) rfl (by kernel_rfl) (by kernel_rfl) (by kernel_rfl) (fun _ _ _ h => h) (Or.inl ⟨by rfl, ?_⟩) trivial ?_
      rotate_left
      ·
       intro w' s1_
       go_simp
       first | done | with_reducible rfl | rfl
      simp only [Act.put, LA]
      refine wpAnyH_take (i := 10) (v := ?_) rfl (by kernel_rfl) (by kernel_rfl) (by kernel_rfl) (fun _ _ _ h => h) (Or.inl ⟨by rfl, ?_⟩) trivial ?_
      rotate_left
      ·
       intro w' s1_
       go_simp
       first | done | with_reducible rfl | rfl
      simp only [Act.put, LA]
      refine wpAnyH_ready (rs := [7, 11]) (by kernel_rfl) (by simp) (AllReadyH.cons rfl (fun K hK => ?_) (AllReadyH.cons rfl (fun K hK => ?_) AllReadyH.nil))
      ·
       go_simp
       refine hK.out _ _ trivial (fun _ => ?_)
       clear hK K
       refine wpAnyH_ready (rs := [11]) (by kernel_rfl) (by simp) (AllReadyH.cons rfl (fun K hK => ?_) AllReadyH.nil)
       go_simp
       refine hK.out _ _ trivial (fun _ => ?_)
       clear hK K
       refine wpAnyH_ready (rs := [12]) (by kernel_rfl) (by simp) (AllReadyH.cons rfl (fun K hK => ?_) AllReadyH.nil)
       go_simp
       refine (rbadd_any g1.s g2.s _ _ _ _ g1.xs g2.xs W0 (by rw [← HG1.out]; exact (R0.out.nowI HLT.out HIP.out).us) (by rw [← HG2.out]; exact (R0.out.fine q hq).us) hl1 hl2).mono ?_
       rintro e W1 ⟨A6, c6, s6, r6, rfl, u6, k6, v6, b6⟩
       dsimp only
       have R6 := Lib.hid (R0.out.next b6)
       have U6 := Lib.hid u6
       have K6 := Lib.hid k6
       have V6 := Lib.hid (show ival s6 r6 = ((cntK l (at_ l i) (k + 1) : Nat) : Int) by rw [v6, HV1.out, HV2.out, HS.out]; omega)
       have hcap6 := u6.cap
       refine hK.out _ _ trivial (fun _ => ?_)
       clear hK K u6 k6 v6 b6
       refine wpAnyH_take (i := 13) (v := ?_) rfl (by kernel_rfl) (by kernel_rfl) (by kernel_rfl) (fun _ _ _ h => h) (Or.inl ⟨by rfl, ?_⟩) trivial ?_
       rotate_left
       ·
        intro w' s1_
        go_simp
        first | done | with_reducible rfl | rfl
       simp only [Act.put, LA]
       refine wpAnyH_ready (rs := [14]) (by kernel_rfl) (by simp) (AllReadyH.cons rfl (fun K hK => ?_) AllReadyH.nil)
       obtain ⟨z1, z2, z3, z4, z5⟩ := R6.out.row.row
       obtain ⟨y1, y2⟩ := z3 ip (by omega)
       have y3 := z4 (ip * 2)
       have y4 := z4 (ip * 2 + 1)
       clear z1 z2 z3 z4 z5
       go_simp
       refine hK.out _ _ trivial (fun _ => ?_)
       clear hK K y1 y2 y3 y4
       refine wpAnyH_done (by kernel_rfl) ?_ _
       refine NoPanic.normal ?_
       go_wp2_with fail
       go_roundw
       case rel =>
        have h7 := R6.out.put HLT.out U6.out K6.out V6.out
        rw [← HIP.out] at h7
        exact ⟨k + 1, _, by omega, by go_num, h7⟩
       case measure => simp [intOf]; omega
      ·
       go_simp
       refine hK.out _ _ trivial (fun _ => ?_)
       clear hK K
       refine wpAnyH_ready (rs := [7]) (by kernel_rfl) (by simp) (AllReadyH.cons rfl (fun K hK => ?_) AllReadyH.nil)
       go_simp
       refine hK.out _ _ trivial (fun _ => ?_)
       clear hK K
       refine wpAnyH_ready (rs := [12]) (by kernel_rfl) (by simp) (AllReadyH.cons rfl (fun K hK => ?_) AllReadyH.nil)
       go_simp
       refine (rbadd_any g1.s g2.s _ _ _ _ g1.xs g2.xs W0 (by rw [← HG1.out]; exact (R0.out.nowI HLT.out HIP.out).us) (by rw [← HG2.out]; exact (R0.out.fine q hq).us) hl1 hl2).mono ?_
       rintro e W1 ⟨A6, c6, s6, r6, rfl, u6, k6, v6, b6⟩
       dsimp only
       have R6 := Lib.hid (R0.out.next b6)
       have U6 := Lib.hid u6
       have K6 := Lib.hid k6
       have V6 := Lib.hid (show ival s6 r6 = ((cntK l (at_ l i) (k + 1) : Nat) : Int) by rw [v6, HV1.out, HV2.out, HS.out]; omega)
       have hcap6 := u6.cap
       refine hK.out _ _ trivial (fun _ => ?_)
       clear hK K u6 k6 v6 b6
       refine wpAnyH_take (i := 13) (v := ?_) rfl (by kernel_rfl) (by kernel_rfl) (by kernel_rfl) (fun _ _ _ h => h) (Or.inl ⟨by rfl, ?_⟩) trivial ?_
       rotate_left
       ·
        intro w' s1_
        go_simp
        first | done | with_reducible rfl | rfl
       simp only [Act.put, LA]
       refine wpAnyH_ready (rs := [14]) (by kernel_rfl) (by simp) (AllReadyH.cons rfl (fun K hK => ?_) AllReadyH.nil)
       obtain ⟨z1, z2, z3, z4, z5⟩ := R6.out.row.row
       obtain ⟨y1, y2⟩ := z3 ip (by omega)
       have y3 := z4 (ip * 2)
       have y4 := z4 (ip * 2 + 1)
       clear z1 z2 z3 z4 z5
       go_simp
       refine hK.out _ _ trivial (fun _ => ?_)
       clear hK K y1 y2 y3 y4
       refine wpAnyH_done (by kernel_rfl) ?_ _
       refine NoPanic.normal ?_
       go_wp2_with fail
       go_roundw
       case rel =>
        have h7 := R6.out.put HLT.out U6.out K6.out V6.out
        rw [← HIP.out] at h7
        exact ⟨k + 1, _, by omega, by go_num, h7⟩
       case measure => simp [intOf]; omega
      -- end of region 10
     ·
      have t2 : decide (v > 1) = false := decide_eq_false hlv
      by_cases hy0 : 0 < y
      ·
       have t3 : decide (y > 0) = true := decide_eq_true hy0
       have HS := Lib.hid (show cntK l (at_ l i) (k + 1) = cntK l (at_ l i) k + 1 by
        show cntK l (at_ l i) k + countT (kidT (dens l) (at_ l i).lv ((at_ l i).kid k)) = _
        rw [← HY.out, ← HV_.out, show v = 1 by omega, kid_leaf l (by omega)]
        rfl)
       have hl1 : g1.xs.length ≤ 60000 := by omega
       clear hip
       go_wp2_with fail
       clear hkid c1_
       -- region 12
       refine wp_region_noPanic ?_
       refine wp_region_held (S := fun _ => True) (by kernel_rfl) ?_
       obtain ⟨W0, hW0⟩ : ∃ W0 : World, W0 = wr.drew := ⟨_, rfl⟩
       have R0 := Lib.hid (show RcW w n l gr L i (cntK l (at_ l i) k : Nat) W0 by rw [hW0]; exact RI.out.next (below_drewN (Below.refl _ wr) 1))
       obtain ⟨r1, r2, r3, r4, r5⟩ := R0.out.row.row
       obtain ⟨a1, a2⟩ := r3 ip (by omega)
       rw [HG1.out] at a1 a2
       change wpAnyH _ _ _ _ _ _ _ _ wr.drew
       rw [← hW0]
       clear hW0 r1 r2 r3 r4 r5
       refine wpAnyH_take (i := 0) (v := ?_) rfl (by kernel_rfl) (by kernel_rfl) (by kernel_rfl) (fun _ _ _ h => h) (Or.inl ⟨by rfl, ?_⟩) trivial ?_
       rotate_left
       ·
        intro w' s1_
        go_simp
        first | done | with_reducible rfl | rfl
       simp only [Act.put, LA]
       refine wpAnyH_take (i := 1) (v := ?_) rfl (by kernel_rfl) (by kernel_rfl) (by kernel_rfl) (fun _ _ _ h => h) (Or.inl ⟨by rfl, ?_⟩) trivial ?_
       rotate_left
       ·
        intro w' s1_
        go_simp
        first | done | with_reducible rfl | rfl
       simp only [Act.put, LA]
       refine wpAnyH_take (i := 2) (v := ?_) rfl (by kernel_rfl) (by kernel_rfl) (by kernel_rfl) (fun _ _ _ h => h) (Or.inl ⟨by rfl, ?_⟩) trivial ?_
       rotate_left
       ·
        intro w' s1_
        go_simp
        first | done | with_reducible rfl | rfl
       simp only [Act.put, LA]
       refine wpAnyH_take (i := 3) (v := ?_) rfl (by kernel_rfl) (by kernel_rfl) (by kernel_rfl) (fun _ _ _ h => h) (Or.inl ⟨by rfl, ?_⟩) trivial ?_
       rotate_left
       ·
        intro w' s1_
        go_simp
        first | done | with_reducible rfl | rfl
       simp only [Act.put, LA]
       refine wpAnyH_take (i := 4) (v := ?_) rfl (by kernel_rfl) (by kernel_rfl) (by kernel_rfl) (fun _ _ _ h => h) (Or.inl ⟨by rfl, ?_⟩) trivial ?_
       rotate_left
       ·
        intro w' s1_
        go_simp
        first | done | with_reducible rfl | rfl
       simp only [Act.put, LA]
       refine wpAnyH_take (i := 5) (v := ?_) rfl (by kernel_rfl) (by kernel_rfl) (by kernel_rfl) (fun _ _ _ h => h) (Or.inl ⟨by rfl, ?_⟩) trivial ?_
       rotate_left
       ·
        intro w' s1_
        go_simp
        first | done | with_reducible rfl | rfl
       simp only [Act.put, LA]
       refine wpAnyH_take (i := 6) (v := ?_) rfl (by kernel_rfl) (by kernel_rfl) (by kernel_rfl) (fun _ _ _ h => h) (Or.inl ⟨by rfl, ?_⟩) trivial ?_
       rotate_left
       ·
        intro w' s1_
        go_simp
        first | done | with_reducible rfl | rfl
       simp only [Act.put, LA]
       refine wpAnyH_ready (rs := [7, 8]) (by kernel_rfl) (by simp) (AllReadyH.cons rfl (fun K hK => ?_) (AllReadyH.cons rfl (fun K hK => ?_) AllReadyH.nil))
       ·
        go_simp
        refine hK.out _ _ trivial (fun _ => ?_)
        clear hK K
        refine wpAnyH_ready (rs := [8]) (by kernel_rfl) (by simp) (AllReadyH.cons rfl (fun K hK => ?_) AllReadyH.nil)
        go_simp
        refine (rbof_any 1 W0 (by decide) (by decide)).mono ?_
        rintro e W1 ⟨A5, c5, s5, r5, rfl, u5, k5, v5, b5⟩
        dsimp only
        have R5 := Lib.hid (R0.out.next b5)
        have U5 := Lib.hid u5
        have V5 := Lib.hid v5
        have hl5 : r5.length ≤ 60000 := Nat.le_trans (len_ival k5 v5 1 (by decide)) (by decide)
        have hcap5 := u5.cap
        obtain ⟨z1, z2, z3, z4, z5⟩ := R5.out.row.row
        obtain ⟨a1, a2⟩ := z3 ip (by omega)
        rw [HG1.out] at a1 a2
        refine hK.out _ _ trivial (fun _ => ?_)
        clear hK K u5 k5 v5 b5 z1 z2 z3 z4 z5
        refine wpAnyH_ready (rs := [9]) (by kernel_rfl) (by simp) (AllReadyH.cons rfl (fun K hK => ?_) AllReadyH.nil)
        go_simp
        refine (rbadd_any g1.s s5 _ _ _ _ g1.xs r5 W1 (by rw [← HG1.out]; exact (R5.out.nowI HLT.out HIP.out).us) U5.out hl1 hl5).mono ?_
        rintro e W2 ⟨A6, c6, s6, r6, rfl, u6, k6, v6, b6⟩
        dsimp only
        have R6 := Lib.hid (R5.out.next b6)
        have U6 := Lib.hid u6
        have K6 := Lib.hid k6
        have V6 := Lib.hid (show ival s6 r6 = ((cntK l (at_ l i) (k + 1) : Nat) : Int) by rw [v6, HV1.out, V5.out, HS.out]; omega)
        have hcap6 := u6.cap
        refine hK.out _ _ trivial (fun _ => ?_)
        clear hK K u6 k6 v6 b6
        refine wpAnyH_take (i := 10) (v := ?_) rfl (by kernel_rfl) (by kernel_rfl) (by kernel_rfl) (fun _ _ _ h => h) (Or.inl ⟨by rfl, ?_⟩) trivial ?_
        rotate_left
        ·
         intro w' s1_
         go_simp
         first | done | with_reducible rfl | rfl
        simp only [Act.put, LA]
        refine wpAnyH_ready (rs := [11]) (by kernel_rfl) (by simp) (AllReadyH.cons rfl (fun K hK => ?_) AllReadyH.nil)
        obtain ⟨z1, z2, z3, z4, z5⟩ := R6.out.row.row
        obtain ⟨y1, y2⟩ := z3 ip (by omega)
        have y3 := z4 (ip * 2)
        have y4 := z4 (ip * 2 + 1)
        clear z1 z2 z3 z4 z5
        go_simp
        refine hK.out _ _ trivial (fun _ => ?_)
        clear hK K y1 y2 y3 y4
        refine wpAnyH_done (by kernel_rfl) ?_ _
        refine NoPanic.normal ?_
        go_wp2_with fail
        go_roundw
        case rel =>
         have h7 := R6.out.put HLT.out U6.out K6.out V6.out
         rw [← HIP.out] at h7
         exact ⟨k + 1, _, by omega, by go_num, h7⟩
        case measure => simp [intOf]; omega
       ·
        go_simp
        refine (rbof_any 1 W0 (by decide) (by decide)).mono ?_
        rintro e W1 ⟨A5, c5, s5, r5, rfl, u5, k5, v5, b5⟩
        dsimp only
        have R5 := Lib.hid (R0.out.next b5)
        have U5 := Lib.hid u5
        have V5 := Lib.hid v5
        have hl5 : r5.length ≤ 60000 := Nat.le_trans (len_ival k5 v5 1 (by decide)) (by decide)
        have hcap5 := u5.cap
        obtain ⟨z1, z2, z3, z4, z5⟩ := R5.out.row.row
        obtain ⟨a1, a2⟩ := z3 ip (by omega)
        rw [HG1.out] at a1 a2
        refine hK.out _ _ trivial (fun _ => ?_)
        clear hK K u5 k5 v5 b5 z1 z2 z3 z4 z5
        refine wpAnyH_ready (rs := [7]) (by kernel_rfl) (by simp) (AllReadyH.cons rfl (fun K hK => ?_) AllReadyH.nil)
        go_simp
        refine hK.out _ _ trivial (fun _ => ?_)
        clear hK K
        refine wpAnyH_ready (rs := [9]) (by kernel_rfl) (by simp) (AllReadyH.cons rfl (fun K hK => ?_) AllReadyH.nil)
        go_simp
        refine (rbadd_any g1.s s5 _ _ _ _ g1.xs r5 W1 (by rw [← HG1.out]; exact (R5.out.nowI HLT.out HIP.out).us) U5.out hl1 hl5).mono ?_
        rintro e W2 ⟨A6, c6, s6, r6, rfl, u6, k6, v6, b6⟩
        dsimp only
        have R6 := Lib.hid (R5.out.next b6)
        have U6 := Lib.hid u6
        have K6 := Lib.hid k6
        have V6 := Lib.hid (show ival s6 r6 = ((cntK l (at_ l i) (k + 1) : Nat) : Int) by rw [v6, HV1.out, V5.out, HS.out]; omega)
        have hcap6 := u6.cap
        refine hK.out _ _ trivial (fun _ => ?_)
        clear hK K u6 k6 v6 b6
        refine wpAnyH_take (i := 10) (v := ?_) rfl (by kernel_rfl) (by kernel_rfl) (by kernel_rfl) (fun _ _ _ h => h) (Or.inl ⟨by rfl, ?_⟩) trivial ?_
        rotate_left
        ·
         intro w' s1_
         go_simp
         first | done | with_reducible rfl | rfl
        simp only [Act.put, LA]
        refine wpAnyH_ready (rs := [11]) (by kernel_rfl) (by simp) (AllReadyH.cons rfl (fun K hK => ?_) AllReadyH.nil)
        obtain ⟨z1, z2, z3, z4, z5⟩ := R6.out.row.row
        obtain ⟨y1, y2⟩ := z3 ip (by omega)
        have y3 := z4 (ip * 2)
        have y4 := z4 (ip * 2 + 1)
        clear z1 z2 z3 z4 z5
        go_simp
        refine hK.out _ _ trivial (fun _ => ?_)
        clear hK K y1 y2 y3 y4
        refine wpAnyH_done (by kernel_rfl) ?_ _
        refine NoPanic.normal ?_
        go_wp2_with fail
        go_roundw
        case rel =>
         have h7 := R6.out.put HLT.out U6.out K6.out V6.out
         rw [← HIP.out] at h7
         exact ⟨k + 1, _, by omega, by go_num, h7⟩
        case measure => simp [intOf]; omega
       -- end of region 12
      ·
       have t3 : decide (y > 0) = false := decide_eq_false hy0
       have hyz : y = 0 := by
        have h1 := HFK.out
        rw [show v = 1 by omega, kidB_one, decide_eq_true_iff] at h1
        omega
       have HS := Lib.hid (show cntK l (at_ l i) (k + 1) = cntK l (at_ l i) k by
        show cntK l (at_ l i) k + countT (kidT (dens l) (at_ l i).lv ((at_ l i).kid k)) = _
        rw [← HY.out, hyz, kid_none]
        rfl)
       clear hip hyz
       go_wp2_with fail
       go_roundw
       case rel => exact ⟨k + 1, L, by omega, by go_num, by rw [HS.out]; exact RI.out⟩
       case measure => simp [intOf]; omega
    ·
     obtain rfl : k = 4 := by omega
     have t1 : decide ((4 : Int) < 4) = false := rfl
     go_wp2_with fail
     go_roundw
     case rel => exact ⟨i + 1, L, HLT.out, by go_num, RcW.step (by rw [← cntK_den HLL.out (by rw [HL.out]; exact HLT.out)]; exact RI.out) HLT.out⟩
     case measure => have := HLT.out; simp [intOf]; omega
  ·
   obtain rfl : i = n := by omega
   have t1 : decide ((i : Int) < (i : Int)) = false := decide_eq_false (by omega)
   clear R
   go_wp2_with fail
   go_ret
   exact ⟨gr, L, rfl, RR.out⟩
end Go.Proofs.YtmfncapgikobkaaGreat

namespace Go.Proofs.YtmfncapgikobkaaGreat
set_option maxRecDepth 100000
set_option linter.unusedVariables false
set_option linter.unusedSimpArgs false
open Go.RowKit Nds Num
set_option maxRecDepth 100000 in
set_option maxHeartbeats 3200000 in
theorem rcount_any (A : Option Addr) (c n : Nat) (l : List Nd) (w : World) (h : Ns w A c l) (hn : l.length = n) (hl : looseB l = true) (hn9 : n ≤ 900000) :
  Calls Tryz.prog 19 #[.agg #[.slice A n c]] w (RetI (countT (den l n) : Nat) w) := by
 have hcap := h.cap
 rw [hn] at hcap
 obtain ⟨W, hW⟩ : ∃ W : World, W = (w.alloc (.cells #[.slice A n c] 27)).alloc (.cells #[.bool false, .slice none 0 0] 42) := ⟨_, rfl⟩
 have hb : Below w.heap.size w W := by rw [hW]; exact ((Below.refl _ w).alloc (Nat.le_refl _) _).alloc (by simp) _
 have hQ : W.heap[w.heap.size]? = some (.cells #[.slice A n c] 27) := by rw [hW]; exact (Below.heap_alloc _ _ _ (by simp)).trans (heap_alloc_new w _)
 have hR : Box W (w.heap.size + 1) (.bool false) (.slice none 0 0) := by
  rw [hW]
  have h := Box.new (w.alloc (.cells #[.slice A n c] 27)) (.bool false) (.slice none 0 0) 42
  simpa using h
 have HQ := Lib.hid hQ
 have HR := Lib.hid hR
 have HB := Lib.hid hb
 have HW := Lib.hid hW
 have HN := Lib.hid (show Ns W A c l from h.below hb)
 have HL := Lib.hid hn
 have HLL := Lib.hid hl
 clear h hn hl hb hQ hR hW
 go_enter Tryz.func19, Tryz.ntmps19
 go_wp2_with fail
 refine wp_region_noPanic ?_
 refine wp_region_held (S := fun w' => w'.cell? ⟨w.heap.size, 0, none⟩ = some (.slice A n c)) (by kernel_rfl) ?_
 obtain ⟨W0, hW0⟩ : ∃ W0 : World, W0 = W.drew := ⟨_, rfl⟩
 have B0 := Lib.hid (show Below W.heap.size W W0 by rw [hW0]; exact below_drewN (Below.refl _ W) 1)
 have hS0 := one_cell ((B0.out.block w.heap.size (Array.getElem?_eq_some_iff.1 HQ.out).1).trans HQ.out)
 rw [← HW.out]
 change wpAnyH _ _ _ _ _ _ _ _ W.drew
 rw [← hW0]
 clear hW0
 refine wpAnyH_take (i := 0) (v := ?_) rfl (by kernel_rfl) (by kernel_rfl) (by kernel_rfl) (fun _ _ _ h => h) (Or.inl ⟨by rfl, ?_⟩) hS0 ?_
 rotate_left
 ·
  intro w' s1_
  go_simp
  first | done | with_reducible rfl | rfl
 simp only [Act.put, LA]
 refine wpAnyH_take (i := 1) (v := ?_) rfl (by kernel_rfl) (by kernel_rfl) (by kernel_rfl) (fun _ _ _ h => h) (Or.inl ⟨by rfl, ?_⟩) hS0 ?_
 rotate_left
 ·
  intro w' s1_
  go_simp
  first | done | with_reducible rfl | rfl
 simp only [Act.put, LA]
 refine wpAnyH_take (i := 3) (v := ?_) rfl (by kernel_rfl) (by kernel_rfl) (by kernel_rfl) (fun _ _ _ h => h) (Or.inl ⟨by rfl, ?_⟩) hS0 ?_
 rotate_left
 ·
  intro w' s1_
  go_simp
  first | done | with_reducible rfl | rfl
 simp only [Act.put, LA]
 refine wpAnyH_take (i := 4) (v := ?_) rfl (by kernel_rfl) (by kernel_rfl) (by kernel_rfl) (fun _ _ _ h => h) (Or.inl ⟨by rfl, ?_⟩) hS0 ?_
 rotate_left
 ·
  intro w' s1_
  go_simp
  first | done | with_reducible rfl | rfl
 simp only [Act.put, LA]
 refine wpAnyH_take (i := 5) (v := ?_) rfl (by kernel_rfl) (by kernel_rfl) (by kernel_rfl) (fun _ _ _ h => h) (Or.inl ⟨by rfl, ?_⟩) hS0 ?_
 rotate_left
 ·
  intro w' s1_
  go_simp
  first | done | with_reducible rfl | rfl
 simp only [Act.put, LA]
 refine wpAnyH_ready (rs := [2]) (by kernel_rfl) (by simp) (AllReadyH.cons rfl (fun K hK => ?_) AllReadyH.nil)
 go_simp
 refine (rcounts_any A c n l W0 (HN.out.below B0.out) HL.out HLL.out hn9).mono ?_
 rintro e W1 ⟨gr, L, rfl, R⟩
 dsimp only
 have RR := Lib.hid R
 have B1 := Lib.hid (B0.out.trans (R.b.mono B0.out.size))
 have hS1 := one_cell ((B1.out.block w.heap.size (Array.getElem?_eq_some_iff.1 HQ.out).1).trans HQ.out)
 obtain ⟨r1, r2, r3, r4, r5⟩ := R.row.row
 obtain ⟨a1, a2⟩ := r3 n (by omega)
 obtain ⟨g, hg⟩ : ∃ g, g = gat L n := ⟨_, rfl⟩
 have hG := R.fine n (Nat.le_refl _)
 rw [← hg] at a1 a2 hG
 have HG := Lib.hid hG
 have hgc := hG.us.cap
 have i1 : (0 : Int) ≤ (n : Int) := by omega
 have i2 : (n : Int) < (n : Int) + 1 := by omega
 refine hK.out _ _ hS1 (fun _ => ?_)
 clear hK K R hS0 hg hG r1 r2 r3 r4 r5
 refine wpAnyH_take (i := 6) (v := ?_) rfl (by kernel_rfl) (by kernel_rfl) (by kernel_rfl) (fun _ _ _ h => h) (Or.inl ⟨by rfl, ?_⟩) hS1 ?_
 rotate_left
 ·
  intro w' s1_
  go_simp
  first | done | with_reducible rfl | rfl
 simp only [Act.put, LA]
 refine wpAnyH_ready (rs := [7]) (by kernel_rfl) (by simp) (AllReadyH.cons rfl (fun K hK => ?_) AllReadyH.nil)
 go_simp
 refine hK.out _ _ hS1 (fun _ => ?_)
 clear hK K
 refine wpAnyH_ready (rs := [8]) (by kernel_rfl) (by simp) (AllReadyH.cons rfl (fun K hK => ?_) AllReadyH.nil)
 obtain ⟨y1, y2, y3, y4, y5⟩ := HR.out.below B1.out
 have HY := Lib.hid (HR.out.below B1.out)
 go_simp
 obtain ⟨e1, e2, _, _, _⟩ := HY.out.set (.bool g.s) (.slice g.a g.xs.length g.c)
 have hS2 : ((W1.setCell ⟨w.heap.size + 1, 0, none⟩ (.bool g.s)).setCell ⟨w.heap.size + 1, 1, none⟩ (.slice g.a g.xs.length g.c)).cell? ⟨w.heap.size, 0, none⟩ = some (.slice A n c) := by
  rw [World.cell?_setCell_other _ _ _ _ (by simp), World.cell?_setCell_other _ _ _ _ (by simp)]
  exact hS1
 refine hK.out _ _ hS2 (fun _ => ?_)
 clear hK K y1 y2 y3 y4 y5
 refine wpAnyH_done (by kernel_rfl) ?_ _
 refine NoPanic.normal ?_
 go_wp2_with fail
 refine bodyPost_ret (v := .agg #[.bool g.s, .slice g.a g.xs.length g.c]) (by simp [results, Tryz.results19, go_sem, e1, e2]) rfl ?_
 exact RetI.box (by omega) HY.out HG.out.us HG.out.cn HG.out.v (HB.out.trans (B1.out.mono HB.out.size))
end Go.Proofs.YtmfncapgikobkaaGreat

namespace Go.Proofs.YtmfncapgikobkaaGreat
set_option maxRecDepth 100000
set_option linter.unusedVariables false
set_option linter.unusedSimpArgs false
open Go.RowKit Num
def RetUR (n : Nat) (w : World) (e : Ending) (w' : World) : Prop :=
 ∃ A c rs, e = .returned (.slice A rs.length c) ∧ Us w' A c rs ∧ Canon rs ∧ val rs = n ∧ Below w.heap.size w w' ∧ FrU w.heap.size A
set_option maxRecDepth 100000 in
set_option maxHeartbeats 3200000 in
theorem rof_fr (A : Option Addr) (c : Nat) (bs : List Bool) (w : World) (h : Bl w A c bs) (hl : bs.length ≤ 100000000) :
  Calls Tryz.prog 109 #[.slice A bs.length c] w (RetUR (bval bs) w) := by
 obtain ⟨i0, hi, hz0, hz1, hz2⟩ := info_parts Tryz.infoU
 have HH := Lib.hid h
 have HI := Lib.hid (And.intro hi (And.intro hz0 (And.intro hz1 hz2)))
 clear h hi hz0 hz1 hz2
 obtain ⟨s, hs⟩ : ∃ s, s = bval bs := ⟨_, rfl⟩
 rw [← hs]
 have HS := Lib.hid hs
 clear hs
 go_enter Tryz.func109, Tryz.ntmps109
 go_wp2_with (go_at_call 130; refine (cut_any A c bs _ HH.out hl).mono ?_; rintro e w0 ⟨n, hn, rfl, hcan, hval, hb0⟩)
 obtain ⟨ds, hds⟩ : ∃ ds, ds = bs.take n := ⟨_, rfl⟩
 have hdl : n = ds.length := by rw [hds, List.length_take, Nat.min_eq_left hn]
 have hD : Bl w0 A c ds := by rw [hds]; exact (HH.out.below hb0).take hn
 rw [← hds] at hcan hval
 have hnl : n ≤ 100000000 := by omega
 have HD := Lib.hid hD
 have HDL := Lib.hid hdl
 have HC := Lib.hid (And.intro hcan hval)
 have HB0 := Lib.hid hb0
 clear hds hdl hD hcan hval hb0 hn hl HH
 go_loopw [3, 4, 5, 6, 7] (fun v iv _ _ _ wr => ∃ i : Nat, i < n + 32 ∧ iv = .int .i64 i ∧ OfRel i ds w0 v wr) (fun _ iv _ _ _ _ => n - (intOf iv).toNat)
 case atStart => exact ⟨0, by omega, rfl, OfRel.start _ _ _ (Below.refl _ _)⟩
 case round =>
  obtain ⟨i, hi, rfl, R⟩ := hrel
  have HR := Lib.hid R
  clear R
  by_cases hlt : i < n
  ·
   obtain ⟨wo, rfl⟩ : ∃ wo : World, wo = wr := ⟨_, rfl⟩
   go_wp2
   go_loopw [5, 6, 7] (fun xv pv kv wr => ∃ k x p : Nat, i ≤ k ∧ k ≤ i + 32 ∧ k ≤ n ∧ kv = .int .i64 (k : Int) ∧ xv = .int .u32 (x : Int) ∧ pv = .int .u32 (p : Int) ∧ OfIn ds i k x p ∧ wr = wo) (fun _ _ kv _ => i + 32 - (intOf kv).toNat)
   case atStart => exact ⟨i, 0, 1, Nat.le_refl _, by omega, by omega, rfl, rfl, rfl, OfIn.start _ _, rfl⟩
   case round =>
    obtain ⟨k, x, p, hk1, hk2, hk3, rfl, rfl, rfl, hin, rfl⟩ := hrel
    by_cases hgo : k < n ∧ k < i + 32
    ·
     obtain ⟨hg1, hg2⟩ := hgo
     obtain ⟨b, off, hA, hb, hc⟩ := HD.out.at_ (by rw [← HDL.out]; omega)
     have hbw : Below w0.heap.size w0 wr := by obtain ⟨_, _, _, _, _, _, _, _, h⟩ := HR.out; exact h
     have ex := (hbw.cell (p := ⟨b, off + k, none⟩) hb).trans (hc k (by rw [← HDL.out]; exact hg1))
     obtain ⟨bt, hbt⟩ : ∃ bt, bt = ds[k]?.getD false := ⟨_, rfl⟩
     rw [← hbt] at ex
     obtain ⟨hx1, hx2⟩ := hin.bound hk1 hg2
     have HN1 := Lib.hid (hin.next hk1 hg2 (by rw [← HDL.out]; exact hg1) hbt)
     clear hc hbt hbw hin
     subst hA
     cases bt
     ·
      go_wp2
      go_roundw
      case rel => exact ⟨k + 1, _, p * 2 % 4294967296, by omega, by omega, by omega, by go_num, rfl, by simp, HN1.out, by first | trivial | rfl⟩
      case measure => simp [intOf] <;> omega
     ·
      go_wp2
      go_roundw
      case rel => exact ⟨k + 1, x + p, p * 2 % 4294967296, by omega, by omega, by omega, by go_num, by simp, by simp, HN1.out, by first | trivial | rfl⟩
      case measure => simp [intOf] <;> omega
    ·
     have hx := hin.last hk1 hk2 (by rw [← HDL.out]; exact hk3) (by rw [← HDL.out]; omega)
     obtain ⟨q, rs, r0, r1, r2, r3, r4, r5, r6⟩ := HR.out
     have HX := Lib.hid hx
     have HO := Lib.hid (And.intro r0 (And.intro r1 (And.intro r2 (And.intro r3 r6))))
     have hrl : rs.length ≤ 100000000 := by omega
     clear hx r0 r1 r2 r3 r4 r5 r6 hin HR
     have hstop : ¬ (k < n ∧ k < i + 32) := hgo
     by_cases hkn : k < n
     ·
      have hki : ¬ k < i + 32 := by omega
      clear hgo hstop
      go_wp2_with (at_builtin; refine wpList_append_own_at _ rfl _ _ 40 rfl w0.heap.size 89 i0 (.int .u32 0) 1 4 Tryz.underlying40 HI.out.1 HI.out.2.1 HI.out.2.2.1 HI.out.2.2.2 rfl (by decide) _ _ _ rfl (HO.out.2.1.2.alloc _) ⟨_, 0, none⟩ 1 1 [.int .u32 (x : Int)] rfl rfl (cell_one_new _ _ _) (by simp [Value.oneCell']) (by simp only [maxLen]; omega) (by omega) (by have := HO.out.2.2.2.2.size; simp; omega) ?_; intro v2 w2 own2 grow2 _ at2)
      go_roundw
      case rel => exact ⟨i + 32, by omega, by go_num, OfRel.next HO.out.1 HO.out.2.1 HO.out.2.2.1 HO.out.2.2.2.1 HO.out.2.2.2.2 (by rw [← HDL.out]; exact hlt) HX.out own2 grow2⟩
      case measure => simp [intOf] <;> omega
     ·
      clear hgo hstop
      go_wp2_with (at_builtin; refine wpList_append_own_at _ rfl _ _ 40 rfl w0.heap.size 89 i0 (.int .u32 0) 1 4 Tryz.underlying40 HI.out.1 HI.out.2.1 HI.out.2.2.1 HI.out.2.2.2 rfl (by decide) _ _ _ rfl (HO.out.2.1.2.alloc _) ⟨_, 0, none⟩ 1 1 [.int .u32 (x : Int)] rfl rfl (cell_one_new _ _ _) (by simp [Value.oneCell']) (by simp only [maxLen]; omega) (by omega) (by have := HO.out.2.2.2.2.size; simp; omega) ?_; intro v2 w2 own2 grow2 _ at2)
      go_roundw
      case rel => exact ⟨i + 32, by omega, by go_num, OfRel.next HO.out.1 HO.out.2.1 HO.out.2.2.1 HO.out.2.2.2.1 HO.out.2.2.2.2 (by rw [← HDL.out]; exact hlt) HX.out own2 grow2⟩
      case measure => simp [intOf] <;> omega
  ·
   obtain ⟨q, rs, r0, r1, r2, r3, r4, r5, r6⟩ := HR.out
   obtain ⟨A1, c1, hv⟩ := r1.shape
   subst hv
   have HFR := Lib.hid (show FrU w0.heap.size A1 from fun a ea => by subst ea; exact (World.ownsRow.lt r1.2 _ rfl).1)
   have HO := Lib.hid (And.intro r1 (And.intro r3 (And.intro r5 r6)))
   clear r0 r1 r2 r3 r4 r5 r6 HR
   go_wp2
   go_ret
   refine ⟨A1, c1, rs, rfl, HO.out.1.reads rfl, HO.out.2.2.1 (by rw [← HDL.out]; omega) HC.out.1, ?_, HB0.out.trans (HO.out.2.2.2.mono HB0.out.size), fun a ea => Nat.le_trans HB0.out.size (HFR.out a ea)⟩
   rw [HO.out.2.1, List.take_of_length_le (by rw [← HDL.out]; omega), HC.out.2, HS.out]
set_option maxHeartbeats 800000 in
theorem rnorm_fr (A : Option Addr) (c : Nat) (xs : List Nat) (w : World) (h : Us w A c xs) (hl : xs.length ≤ 1000000) :
  Calls Tryz.prog 80 #[.slice A xs.length c] w (RetUR (val xs) w) := by
 have HH := Lib.hid h
 have hd := h.1
 clear h
 go_enter Tryz.func80, Tryz.ntmps80
 go_wp2_with (first
  | (go_at_call 110; refine (bits_any A c xs _ HH.out hl).mono ?_; rintro e w1 ⟨A1, c1, bs, rfl, q1, k1, v1, b1⟩)
  | (go_at_call 109; refine (rof_fr A1 c1 bs _ q1 (by have := bits_len hd k1 v1; omega)).mono ?_; rintro e w2 ⟨A2, c2, rs, rfl, q2, k2, v2, b2, f2⟩; have HF := Lib.hid (And.intro b1.size f2); clear f2))
 go_ret
 exact ⟨A2, c2, rs, rfl, q2, k2, v2.trans v1, b1.trans (b2.mono b1.size), fun a ea => Nat.le_trans HF.out.1 (HF.out.2 a ea)⟩
set_option maxRecDepth 100000 in
set_option maxHeartbeats 1600000 in
theorem rsign_fr (s : Bool) (A : Option Addr) (c : Nat) (xs : List Nat) (w : World) (h : Us w A c xs) (hl : xs.length ≤ 100000) :
  Calls Tryz.prog 54 #[.bool s, .slice A xs.length c] w (RetIF (ival s xs) w) := by
 have hcap := h.cap
 have b0 := Lib.hid ((Below.refl w.heap.size w).alloc (Nat.le_refl _) (.cells #[.bool false, .slice none 0 0] 42))
 have H1 := Lib.hid h
 clear h
 go_enter Tryz.func54, Tryz.ntmps54
 cases s
 all_goals
  go_wp2_with (go_at_call 80; refine (rnorm_fr _ _ xs _ (H1.out.below b0.out) (by omega)).mono ?_; rintro e w1 ⟨A1, c1, r1, rfl, q, k1, v1, b, f1⟩; have HF1 := Lib.hid (show FrU w.heap.size A1 from fun a ea => Nat.le_trans (by simp) (f1 a ea)); clear f1; have hcap1 := q.cap; obtain ⟨x1, x2, x3, x4, x5⟩ := (Box.new w _ _ _).below b; have HQ := Lib.hid (And.intro q (And.intro k1 (And.intro v1 b))); clear q k1 v1 b)
 all_goals
  have HB := (Box.new w (.bool false) (.slice none 0 0) 42).below HQ.out.2.2.2
  have hw1 : Below w.heap.size w w1 := b0.out.trans (HQ.out.2.2.2.mono (by simp))
  clear x1 x2 x3 x4 x5
 ·
  obtain ⟨e1, e2, _, _, _⟩ := HB.set (.bool false) (.slice A1 r1.length c1)
  refine bodyPost_ret (v := .agg #[.bool false, .slice A1 r1.length c1]) (by simp [results, Tryz.results54, go_sem, e1, e2]) rfl ?_
  exact RetIF.box (Nat.le_refl _) HB HQ.out.1 ⟨HQ.out.2.1, by simp⟩ (by unfold ival; simp [HQ.out.2.2.1]) hw1 HF1.out
 ·
  obtain ⟨e1, e2, _, _, _⟩ := HB.set (.bool (decide (0 < r1.length))) (.slice A1 r1.length c1)
  refine bodyPost_ret (v := .agg #[.bool (decide (0 < r1.length)), .slice A1 r1.length c1]) (by simp [results, Tryz.results54, go_sem, e1, e2]) rfl ?_
  refine RetIF.box (Nat.le_refl _) HB HQ.out.1 (by simpa using canonI_of HQ.out.2.1 true) ?_ hw1 HF1.out
  have := ival_of r1 true
  simp only [Bool.true_and] at this
  rw [this]
  unfold ival
  simp [HQ.out.2.2.1]
set_option maxRecDepth 100000 in
set_option maxHeartbeats 1600000 in
theorem rbadd_sameF (s : Bool) (A B : Option Addr) (c d : Nat) (xs ys : List Nat) (w : World) (h : Us w A c xs) (k : Us w B d ys) (hl : xs.length ≤ 60000) (kl : ys.length ≤ 60000) :
  Calls Tryz.prog 65 #[.agg #[.bool s, .slice A xs.length c], .agg #[.bool s, .slice B ys.length d]] w (RetIF (ival s xs + ival s ys) w) := by
 have hcap := h.cap
 have kcap := k.cap
 obtain ⟨hX, hY, hR, hB⟩ := box3 w (.bool s) (.slice A xs.length c) (.bool s) (.slice B ys.length d) (.bool false) (.slice none 0 0) 42
 have HX := Lib.hid hX.drew
 have HY := Lib.hid hY.drew
 have HR := Lib.hid hR.drew
 have HB := Lib.hid (Below.drew' hB)
 have H1 := Lib.hid (h.below HB.out)
 have H2 := Lib.hid (k.below HB.out)
 have hd := h.1
 have kd := k.1
 clear h k hX hY hR hB
 have n1 : ¬ w.heap.size = w.heap.size + 1 + 1 := by omega
 have n2 : ¬ w.heap.size + 1 + 1 = w.heap.size := by omega
 go_enter Tryz.func65, Tryz.ntmps65
 go_wp2_with fail
 go_region_held3 (fun w' => w'.cell? ⟨w.heap.size, 0, none⟩ = some (.bool s) ∧ w'.cell? ⟨w.heap.size, 1, none⟩ = some (.slice A xs.length c) ∧ w'.cell? ⟨w.heap.size + 1, 1, none⟩ = some (.slice B ys.length d))
  (first | go_keep | fail)
  (first
   | (go_at_call 91; refine (radd_any _ _ _ _ xs ys _ H1.out H2.out (by omega) (by omega)).mono ?_; rintro e w1 ⟨A1, c1, r1, rfl, q1, k1, v1, b1⟩; obtain ⟨x1, x2, _, _, _⟩ := HX.out.below b1; obtain ⟨_, z2, _, _, _⟩ := HY.out.below b1; have l1 := len_sum hd kd hl kl k1 v1)
   | (go_at_call 54; refine (rsign_fr s _ _ r1 _ q1 (by omega)).mono ?_; rintro e w2 ⟨A2, c2, s2, r2, rfl, q2, k2, v2, b2, f2⟩; have HF2 := Lib.hid f2; clear f2; obtain ⟨x1, x2, _, _, _⟩ := (HX.out.below b1).below b2; obtain ⟨_, z2, _, _, _⟩ := (HY.out.below b1).below b2; obtain ⟨y1, y2, y3, y4, _⟩ := (HR.out.below b1).below b2))
 go_wp2
 obtain ⟨e1, e2, _, _, _⟩ := (((HR.out.below b1).below b2).set (.bool s2) (.slice A2 r2.length c2))
 refine bodyPost_ret (v := .agg #[.bool s2, .slice A2 r2.length c2]) (by simp [results, Tryz.results65, go_sem, e1, e2]) rfl ?_
 refine RetIF.box (by omega) ((HR.out.below b1).below b2) q2 k2 (v2.trans ?_) ((HB.out.trans (b1.mono HB.out.size)).trans (b2.mono (HB.out.trans (b1.mono HB.out.size)).size)) (fun a ea => Nat.le_trans HB.out.size (Nat.le_trans b1.size (HF2.out a ea)))
 unfold ival
 rw [v1]
 cases s <;> simp <;> omega
set_option maxRecDepth 100000 in
set_option maxHeartbeats 1600000 in
theorem rbadd_moreF (s : Bool) (A B : Option Addr) (c d : Nat) (xs ys : List Nat) (w : World) (h : Us w A c xs) (k : Us w B d ys) (hl : xs.length ≤ 60000) (kl : ys.length ≤ 60000) (hle : val ys ≤ val xs) :
  Calls Tryz.prog 65 #[.agg #[.bool s, .slice A xs.length c], .agg #[.bool (!s), .slice B ys.length d]] w (RetIF (ival s xs + ival (!s) ys) w) := by
 have hcap := h.cap
 have kcap := k.cap
 obtain ⟨hX, hY, hR, hB⟩ := box3 w (.bool s) (.slice A xs.length c) (.bool (!s)) (.slice B ys.length d) (.bool false) (.slice none 0 0) 42
 have HX := Lib.hid hX
 have HY := Lib.hid hY
 have HR := Lib.hid hR
 have HB := Lib.hid (hB)
 have H1 := Lib.hid (h.below HB.out)
 have H2 := Lib.hid (k.below HB.out)
 have hd := h.1
 have kd := k.1
 clear h k hX hY hR hB
 have n1 : ¬ w.heap.size = w.heap.size + 1 + 1 := by omega
 have n2 : ¬ w.heap.size + 1 + 1 = w.heap.size := by omega
 have HL := Lib.hid hle
 clear hle
 have hst : (s == !s) = false := by cases s <;> rfl
 go_enter Tryz.func65, Tryz.ntmps65
 go_wp2_with (first
  | (go_at_call_of 92 (Value.slice A xs.length c); go_loud (refine (rsub_any _ _ _ _ xs ys _ H1.out H2.out (by omega) (by omega)).mono ?_; intro e w1 h; obtain ⟨A1, c1, r1, rfl, q1, k1, v1, b1⟩ := h.2 HL.out; clear h; obtain ⟨x1, x2, _, _, _⟩ := HX.out.below b1; obtain ⟨z1, z2, _, _, _⟩ := HY.out.below b1; have l1 := len_less hd hl k1 v1; have HV := Lib.hid v1; clear v1))
  | (go_at_call 54; go_loud (refine (rsign_fr s _ _ r1 _ q1 (by omega)).mono ?_; rintro e w2 ⟨A2, c2, s2, r2, rfl, q2, k2, v2, b2, f2⟩; have HF2 := Lib.hid f2; clear f2; obtain ⟨y1, y2, y3, y4, _⟩ := (HR.out.below b1).below b2; have HV2 := Lib.hid v2; clear v2)))
 obtain ⟨e1, e2, _, _, _⟩ := (((HR.out.below b1).below b2).set (.bool s2) (.slice A2 r2.length c2))
 refine bodyPost_ret (v := .agg #[.bool s2, .slice A2 r2.length c2]) (by simp [results, Tryz.results65, go_sem, e1, e2]) rfl ?_
 refine RetIF.box (by omega) ((HR.out.below b1).below b2) q2 k2 (HV2.out.trans ?_) ((HB.out.trans (b1.mono HB.out.size)).trans (b2.mono (HB.out.trans (b1.mono HB.out.size)).size)) (fun a ea => Nat.le_trans HB.out.size (Nat.le_trans b1.size (HF2.out a ea)))
 have hle := HL.out
 unfold ival
 rw [HV.out]
 cases s <;> simp <;> omega
set_option maxRecDepth 100000 in
set_option maxHeartbeats 1600000 in
theorem rbadd_lessF (s : Bool) (A B : Option Addr) (c d : Nat) (xs ys : List Nat) (w : World) (h : Us w A c xs) (k : Us w B d ys) (hl : xs.length ≤ 60000) (kl : ys.length ≤ 60000) (hle : val xs < val ys) :
  Calls Tryz.prog 65 #[.agg #[.bool s, .slice A xs.length c], .agg #[.bool (!s), .slice B ys.length d]] w (RetIF (ival s xs + ival (!s) ys) w) := by
 have hcap := h.cap
 have kcap := k.cap
 obtain ⟨hX, hY, hR, hB⟩ := box3 w (.bool s) (.slice A xs.length c) (.bool (!s)) (.slice B ys.length d) (.bool false) (.slice none 0 0) 42
 have HX := Lib.hid hX
 have HY := Lib.hid hY
 have HR := Lib.hid hR
 have HB := Lib.hid (hB)
 have H1 := Lib.hid (h.below HB.out)
 have H2 := Lib.hid (k.below HB.out)
 have hd := h.1
 have kd := k.1
 clear h k hX hY hR hB
 have n1 : ¬ w.heap.size = w.heap.size + 1 + 1 := by omega
 have n2 : ¬ w.heap.size + 1 + 1 = w.heap.size := by omega
 have HL := Lib.hid hle
 clear hle
 have hst : (s == !s) = false := by cases s <;> rfl
 have tok0 : True := trivial
 go_enter Tryz.func65, Tryz.ntmps65
 go_wp2_with (first
  | (go_at_call 92; have _t := tok0; refine (rsub_any A B _ _ xs ys _ H1.out H2.out (by omega) (by omega)).mono ?_; intro e w1 h; obtain ⟨rfl, b1⟩ := h.1 HL.out; clear h tok0 _t; obtain ⟨x1, x2, _, _, _⟩ := HX.out.below b1; obtain ⟨z1, z2, _, _, _⟩ := HY.out.below b1)
  | (go_at_call 92; go_loud (refine (rsub_any B A _ _ ys xs _ (H2.out.below b1) (H1.out.below b1) (by omega) (by omega)).mono ?_; intro e w3 h; obtain ⟨A1, c1, r1, rfl, q1, k1, v1, b3⟩ := h.2 (Nat.le_of_lt HL.out); clear h x1 x2 z1 z2; obtain ⟨x1, x2, _, _, _⟩ := (HX.out.below b1).below b3; obtain ⟨z1, z2, _, _, _⟩ := (HY.out.below b1).below b3; have l1 := len_less kd kl k1 v1; have HV := Lib.hid v1; clear v1))
  | (go_at_call 54; go_loud (refine (rsign_fr (!s) _ _ r1 _ q1 (by omega)).mono ?_; rintro e w2 ⟨A2, c2, s2, r2, rfl, q2, k2, v2, b2, f2⟩; have HF2 := Lib.hid f2; clear f2; obtain ⟨y1, y2, y3, y4, _⟩ := ((HR.out.below b1).below b3).below b2; have HV2 := Lib.hid v2; clear v2)))
 obtain ⟨e1, e2, _, _, _⟩ := ((((HR.out.below b1).below b3).below b2).set (.bool s2) (.slice A2 r2.length c2))
 refine bodyPost_ret (v := .agg #[.bool s2, .slice A2 r2.length c2]) (by simp [results, Tryz.results65, go_sem, e1, e2]) rfl ?_
 have hb1 := HB.out.trans (b1.mono HB.out.size)
 have hb3 := hb1.trans (b3.mono hb1.size)
 refine RetIF.box (by omega) (((HR.out.below b1).below b3).below b2) q2 k2 (HV2.out.trans ?_) (hb3.trans (b2.mono hb3.size)) (fun a ea => Nat.le_trans hb3.size (HF2.out a ea))
 have hle := HL.out
 unfold ival
 rw [HV.out]
 cases s <;> simp <;> omega
theorem rbadd_F (s t : Bool) (A B : Option Addr) (c d : Nat) (xs ys : List Nat) (w : World) (h : Us w A c xs) (k : Us w B d ys) (hl : xs.length ≤ 60000) (kl : ys.length ≤ 60000) :
  Calls Tryz.prog 65 #[.agg #[.bool s, .slice A xs.length c], .agg #[.bool t, .slice B ys.length d]] w (RetIF (ival s xs + ival t ys) w) := by
 by_cases hst : s = t
 ·
  subst hst
  exact rbadd_sameF s A B c d xs ys w h k hl kl
 ·
  obtain rfl : t = !s := by cases s <;> cases t <;> simp_all
  rcases Nat.lt_or_ge (val xs) (val ys) with hlt | hge
  ·
   exact rbadd_lessF s A B c d xs ys w h k hl kl hlt
  ·
   exact rbadd_moreF s A B c d xs ys w h k hl kl hge
end Go.Proofs.YtmfncapgikobkaaGreat

namespace Go.Proofs.YtmfncapgikobkaaGreat
set_option maxRecDepth 100000
set_option linter.unusedVariables false
set_option linter.unusedSimpArgs false
open Go.RowKit Nds Num
theorem Cs.cells {w : World} {A : Option Addr} {c : Nat} {l : List Cv} {ad : Addr} (h : Cs w A c l) (e : A = some ad) : ∀ j u, (cvcs l)[j]? = some u → w.cell? (ad.add j) = some u := by
 intro j u hu
 have hj := (List.getElem?_eq_some_iff.1 hu).1
 rw [cvcs_len] at hj
 obtain ⟨b, off, e2, _, hc⟩ := h.at_ (by omega)
 rw [e] at e2
 cases e2
 obtain ⟨i, k, rfl, hk⟩ : ∃ i k, j = i * 5 + k ∧ k < 5 := ⟨j / 5, j % 5, by omega, by omega⟩
 have hi : i < l.length := by omega
 rw [cvcs_at l i k hi hk] at hu
 obtain ⟨h0, h1, h2, h3, h4⟩ := hc i hi
 have hadd : (⟨b, off, none⟩ : Addr).add (i * 5 + k) = ⟨b, off + i * 5 + k, none⟩ := by
  unfold Addr.add
  split
  ·
   rename_i h; rw [show off + i * 5 + k = off by omega]
  ·
   simp; omega
 rw [hadd]
 match k, hk with
 | 0, _ => exact h0.trans hu
 | 1, _ => exact h1.trans hu
 | 2, _ => exact h2.trans hu
 | 3, _ => exact h3.trans hu
 | 4, _ => exact h4.trans hu
theorem run_append_cs (w : World) (base : Nat) (v : Value) (xs ys : List Cv) (ty : TypeId) (A : Option Addr) (m c : Nat) (how : OwnC w base v xs) (hN : Cs w A c ys) (hm : ys.length = m) (hA : A = none → c = 0) (hs : xs.length + m ≤ 1000000) (hb : base ≤ w.heap.size) :
  ∃ v' w', (Builtin.append_ #[22, 22] ty #[v, .slice A m c]).run Tryz.prog w = .ok v' w' ∧ OwnC w' base v' (xs ++ ys) ∧ w.grownBy w' v.ownBlock ∧ (v'.ownBlock = v.ownBlock ∨ v'.ownBlock = some w.heap.size) := by
 obtain ⟨i0, hi, hz0, hz1, hz2⟩ := info_parts Tryz.infoC
 cases A with
 | none =>
  have hc := hA rfl
  have hy : ys = [] := by
   rcases Nat.eq_zero_or_pos ys.length with h | h
   ·
    exact List.eq_nil_of_length_eq_zero h
   ·
    obtain ⟨b, off, e, _⟩ := hN.at_ h
    cases e
  subst hy
  subst hc
  subst hm
  refine ⟨v, w, run_append_owned_none (P := Tryz.prog) (w := w) base _ ty 47 i0 5 Tryz.underlying22 hi v _ _ how, ?_, ⟨rfl, rfl, rfl, Nat.le_refl _, fun _ _ _ => rfl⟩, .inl rfl⟩
  rw [List.append_nil]
  exact how
 | some ad => exact run_append_cells w base v xs ys ty ad m c how (hN.cells rfl) hm hs hb
theorem wpList_append_cs (w : World) {ops : Array Oper} {rest : List Oper} {o : Oper} {a : Act} {Q : Exit → Act → World → Prop} (hg : o.guard = none) (s x : Operand)
  (hop : o.op = Op.call { callee := Callee.builtin Builtin.append, args := #[s, x], argTypes := #[22, 22] }) (base : Nat) (v : Value) (xs ys : List Cv) (A : Option Addr) (m c : Nat)
  (hs : a.eval s = v) (hx : a.eval x = .slice A m c) (how : OwnC w base v xs) (hN : Cs w A c ys) (hm : ys.length = m) (hA : A = none → c = 0) (hsz : xs.length + m ≤ 1000000) (hb : base ≤ w.heap.size)
  (hK : ∀ v' w', OwnC w' base v' (xs ++ ys) → w.grownBy w' v.ownBlock → (v'.ownBlock = v.ownBlock ∨ v'.ownBlock = some w.heap.size) → wpList Tryz.prog ops Q rest (a.put o.dst v') w') :
  wpList Tryz.prog ops Q (o :: rest) a w := by
 refine wpList_plain hg fun K hK' => ?_
 obtain ⟨v', w', hrun, h1, h2, h3⟩ := run_append_cs w base v xs ys o.type A m c how hN hm hA hsz hb
 unfold Oper.wp execOp
 simp only [hop, resolve, invoke, builtin, Sem.run_bind, Sem.run_pure, Result.andThen_ok, List.map_toArray, List.map_cons, List.map_nil, hs, hx, hrun]
 exact hK' _ _ (hK v' w' h1 h2 h3)
def Ori (base : Nat) (P : Nat → Prop) (u : Cv) : Prop := (0 < u.xs.length → ∀ a, u.ax = some a → base ≤ a.block ∨ P a.block) ∧ (0 < u.ys.length → ∀ a, u.ay = some a → base ≤ a.block ∨ P a.block)
structure RlO (base : Nat) (P : Nat → Prop) (W : World) (v : Value) (M : List Cv) : Prop where
 o : OwnC W base v M
 ok : ∀ u ∈ M, CvU W u ∧ CvR u ∧ (∀ q, v.ownBlock = some q → Off q u) ∧ Ori base P u
theorem RlO.nil (base : Nat) (P : Nat → Prop) (W : World) : RlO base P W (.slice none 0 0) [] := ⟨OwnC.nil W base, fun u hu => by cases hu⟩
theorem RlO.next {base : Nat} {P : Nat → Prop} {W W1 : World} {v : Value} {M : List Cv} (h : RlO base P W v M) (k : Below W.heap.size W W1) : RlO base P W1 v M :=
 ⟨h.o.kept (gbN k) (own_dec (fun q _ e => by cases e)), fun u hu => by
  obtain ⟨h1, h2⟩ := h.ok u hu
  exact ⟨h1.below k, h2⟩⟩
theorem RlO.more {base : Nat} {P : Nat → Prop} {W W1 : World} {v v2 : Value} {M N : List Cv} (h : RlO base P W v M) (hN : ∀ u ∈ N, CvU W u ∧ CvR u ∧ (∀ q, v.ownBlock = some q → Off q u) ∧ Ori base P u)
  (hf : OwnC W1 base v2 (M ++ N)) (hg : W.grownBy W1 v.ownBlock) (hat : v2.ownBlock = v.ownBlock ∨ v2.ownBlock = some W.heap.size) : RlO base P W1 v2 (M ++ N) := by
 have offN : ∀ u, CvU W u → Off W.heap.size u := fun u hu => ⟨fun h0 a ea => by have := us_lt hu.1 h0 a ea; omega, fun h0 a ea => by have := us_lt hu.2.1 h0 a ea; omega⟩
 have turn : ∀ u, CvU W u → (∀ q, v.ownBlock = some q → Off q u) → CvU W1 u := fun u h1 h2 => by
  cases hv : v.ownBlock with
  | none => exact h1.below ⟨hg.os, hg.tape, hg.output, hg.size, fun q hq => hg.block q hq (by rw [hv]; simp)⟩
  | some g => exact cvU_kept h1 (fun q h3 h4 => hg.block q h3 (fun e => h4 (by rw [hv] at e; cases e; rfl))) hg.size (h2 g hv)
 have off : ∀ u, CvU W u → (∀ q, v.ownBlock = some q → Off q u) → ∀ q, v2.ownBlock = some q → Off q u := fun u h1 h2 q hq => by
  rcases hat with e | e
  ·
   exact h2 q (e.symm.trans hq)
  ·
   rw [← Option.some.inj (e.symm.trans hq)]
   exact offN u h1
 refine ⟨hf, fun u hu => ?_⟩
 have hu' : CvU W u ∧ CvR u ∧ (∀ q, v.ownBlock = some q → Off q u) ∧ Ori base P u := by
  rcases List.mem_append.1 hu with h1 | h1
  ·
   exact h.ok u h1
  ·
   exact hN u h1
 exact ⟨turn u hu'.1 hu'.2.2.1, hu'.2.1, off u hu'.1 hu'.2.2.1, hu'.2.2.2⟩
theorem us_belowB {w w' : World} {A : Option Addr} {c B : Nat} {xs : List Nat} (h : Us w A c xs) (hA : 0 < xs.length → ∀ a, A = some a → a.block < B) (hb : Below B w w') : Us w' A c xs :=
 ⟨h.1, h.2.1, h.2.2.1, fun hn => by
  obtain ⟨b, off, e, hlt, hc⟩ := h.2.2.2 hn
  exact ⟨b, off, e, Nat.lt_of_lt_of_le hlt hb.size, fun j u hu => (hb.cell (p := ⟨b, off + j, none⟩) (show b < B from hA (by simpa using hn) ⟨b, off, none⟩ e)).trans (hc j u hu)⟩⟩
structure HB_ (W : World) (B g : Nat) (s : Bool) (A : Option Addr) (c : Nat) (xs : List Nat) (n : Int) : Prop where
 x : HX W g s A c xs n
 g : g < B
 l : 0 < xs.length → ∀ a, A = some a → a.block < B
theorem HB_.keep {W W1 : World} {B g : Nat} {s : Bool} {A : Option Addr} {c : Nat} {xs : List Nat} {n : Int} (h : HB_ W B g s A c xs n) (k : Below B W W1) : HB_ W1 B g s A c xs n :=
 ⟨⟨(k.block g h.g).trans h.x.box, us_belowB h.x.us h.l k, h.x.cn, h.x.v, h.x.off⟩, h.g, h.l⟩
theorem len_near {s : Bool} {xs : List Nat} {z : Int} (hc : CanonI s xs) (hv : ival s xs = z) (h0 : -p2 1330 ≤ z) (h1 : z ≤ p2 1330) : xs.length ≤ 50 := by
 refine len_ival hc hv 50 ?_
 obtain ⟨M, hM⟩ : ∃ M, M = 50 := ⟨_, rfl⟩
 obtain ⟨N, hN⟩ : ∃ N, N = 1330 := ⟨_, rfl⟩
 rw [← hN] at h0 h1
 have h2 : (p2 N).natAbs < 4294967296 ^ M := by
  unfold p2
  rw [show ((2 : Int) ^ N).natAbs = 2 ^ N by rw [Int.natAbs_pow]; rfl, show (4294967296 : Nat) = 2 ^ 32 by decide, ← Nat.pow_mul]
  exact Nat.pow_lt_pow_right (by decide) (by omega)
 rw [← hM]
 omega
end Go.Proofs.YtmfncapgikobkaaGreat
