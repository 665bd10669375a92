/-
  cells: standing and nodes of no cells.
  cells.Of: the quad of cells, or why there is none.
  cells.Of: the walk.
  cells: what Of leaves is the quad of the cells that stand; plain.
  cells, the reference: counts, Count.
  cells: append of slices of cells; rows of cells whose numbers lie elsewhere.
-/
import Derived.Test.YtmfncapgikobkaaGreatGClSa
import Derived.Test.YtmfncapgikobkaaGreatGClLj
import Derived.Test.YtmfncapgikobkaaGreatGNdsW
import Derived.Test.YtmfncapgikobkaaGreatGClVp
import Derived.Test.YtmfncapgikobkaaGreatGNdRLoose
import Derived.Test.YtmfncapgikobkaaGreatGClVi
import Derived.Test.YtmfncapgikobkaaGreatGRSub
import Derived.Test.YtmfncapgikobkaaGreatGClNd

namespace Go.Proofs.YtmfncapgikobkaaGreat
set_option maxRecDepth 100000
set_option linter.unusedVariables false
set_option linter.unusedSimpArgs false
open Go.RowKit Nds Num Go.Shelf
set_option maxRecDepth 100000 in
set_option maxHeartbeats 3200000 in
theorem nodes_zero (A0 : Option Addr) (c0 lv : Nat) (w : World) :
  Calls Tryz.prog 28 #[.slice A0 0 c0, .int .i64 (lv : Int)] w fun e w' => e = .returned (.slice none 0 0) ∧ Below w.heap.size w w' := by
 go_enter Tryz.func28, Tryz.ntmps28
 go_wp2_with fail
 go_ret
 exact ⟨rfl, Below.refl _ _⟩
theorem sort_none (p : Option Addr) (cap : Nat) (fv : Value) (w : World) : Calls Tryz.prog 56 #[.slice p 0 cap, fv] w fun e w' => e = .returned (.tuple #[]) ∧ w' = w := by
 have h := AnyF.slices_SortFunc_none (P := Tryz.prog) { Tryz.sortI with } p cap fv w
 exact h
set_option maxRecDepth 100000 in
set_option maxHeartbeats 3200000 in
theorem standing_zero (A : Option Addr) (c : Nat) (w : World) :
  Calls Tryz.prog 26 #[.slice A 0 c] w (RetSt [] w) := by
 obtain ⟨W, hW⟩ : ∃ W : World, W = w.alloc (.cells #[.slice A 0 c] 22) := ⟨_, rfl⟩
 have hb : Below w.heap.size w W := by rw [hW]; exact (Below.refl _ w).alloc (Nat.le_refl _) _
 obtain ⟨b1, b2⟩ := cell_new_l w (.slice A 0 c) 22
 obtain ⟨i0, hi, hz0, hz1, hz2⟩ := info_parts Tryz.infoI
 have HI := Lib.hid (And.intro hi (And.intro hz0 (And.intro hz1 hz2)))
 have HW := Lib.hid hW
 have HB := Lib.hid hb
 clear hi hz0 hz1 hz2 hW hb
 go_enter Tryz.func26, Tryz.ntmps26
 go_wp2_with (first
  | (at_make; go_loud (rw [← HW.out]; refine wpList_make_full _ rfl _ _ 67 rfl w.heap.size 3 i0 _ 1 Tryz.underlying67 HI.out.1 HI.out.2.1 HI.out.2.2.1 .i64 .i64 _ _ 0 rfl rfl (by omega) (by omega) (by rw [HI.out.2.2.2]; omega) (by unfold maxLen; omega) HB.out.size ?_; intro w0 own grow; have HGR := Lib.hid grow; clear own grow)))
 go_loopw [14] (fun z1 wr => z1 = .int .i64 0 ∧ wr = w0) (fun _ _ => 0)
 case atStart => exact ⟨rfl, rfl⟩
 case round =>
  obtain ⟨rfl, rfl⟩ := hrel
  go_wp2_with (go_at_call 56; go_loud (refine (sort_none _ _ _ _).mono ?_; rintro e w2 ⟨rfl, rfl⟩))
  go_loopw [27, 5] (fun z1 z2 wr' => z1 = .int .i64 0 ∧ z2 = .slice none 0 0 ∧ wr' = w2) (fun _ _ _ => 0)
  case atStart => exact ⟨rfl, rfl, rfl⟩
  case round =>
   obtain ⟨rfl, rfl, rfl⟩ := hrel
   go_wp2_with fail
   go_ret
   exact ⟨_, [], rfl, rfl, (fun x hx => by cases hx), OwnC.nil _ _, Nat.le_refl _, HB.out.grown HGR.out HB.out.size (fun k hk => by cases hk)⟩
end Go.Proofs.YtmfncapgikobkaaGreat

namespace Go.Proofs.YtmfncapgikobkaaGreat
set_option maxRecDepth 100000
set_option linter.unusedVariables false
set_option linter.unusedSimpArgs false
open Go.RowKit Nds Num
def okC (v : Cv) : Bool := rightI v.sx v.xs && rightI v.sy v.ys
def OfC (l : List Cv) (out : List Nd) (er : Int) : Prop :=
 (l.all okC = false → er = 1 ∧ out = []) ∧ (l.all okC = true → (1329 < leastF (lastF (l.map Cv.cl)) → er = 4 ∧ out = []) ∧ (leastF (lastF (l.map Cv.cl)) ≤ 1329 → er = 0 ∧
  ∃ l' : List Cv, out = (enc (treeZ (leastF (lastF (l.map Cv.cl))) l') []).1 ∧ (l'.map Cv.cn).Perm ((lastF (l.map Cv.cl)).map (shC (p2 (leastF (lastF (l.map Cv.cl)) - 1)))) ∧ HiB (leastF (lastF (l.map Cv.cl))) 0 0 l'))
def RetOf (l : List Cv) (w : World) (e : Ending) (w' : World) : Prop :=
 ∃ v' out er, e = .returned (.tuple #[.agg #[v'], .int .i64 er]) ∧ OwnN w' w.heap.size v' out ∧ Below w.heap.size w w' ∧ OfC l out er
theorem upL_in {c : Cl} : ∀ {lv : Nat}, lv ≤ 1330 → upL c lv ≤ 1329 → inL c (upL c lv) = true := fun {lv} => by
 suffices h : ∀ d lv, lv + d = 1330 → upL c lv ≤ 1329 → inL c (upL c lv) = true from fun hl h1 => h (1330 - lv) lv (by omega) h1
 intro d
 induction d with
 | zero => intro lv he h1; rw [upL_top (by omega)] at h1; omega
 | succ d ih =>
  intro lv he h1
  cases hq : inL c lv with
  | true => rw [upL_stop hq]; exact hq
  | false =>
   rw [upL_next (by omega) hq] at h1 ⊢
   exact ih (lv + 1) (by omega) h1
theorem upL_ge (c : Cl) : ∀ (lv : Nat), lv ≤ 1330 → lv ≤ upL c lv ∧ upL c lv ≤ 1330 := fun lv hl => by
 suffices h : ∀ d lv, lv + d = 1330 → lv ≤ upL c lv ∧ upL c lv ≤ 1330 from h (1330 - lv) lv (by omega)
 intro d
 induction d with
 | zero => intro lv he; rw [upL_top (by omega)]; omega
 | succ d ih =>
  intro lv he
  cases hq : inL c lv with
  | true => rw [upL_stop hq]; omega
  | false =>
   rw [upL_next (by omega) hq]
   have := ih (lv + 1) (by omega)
   omega
theorem inL_up {c : Cl} {a b : Nat} (h : inL c a = true) (hab : a ≤ b) : inL c b = true := by
 unfold inL inH at h ⊢
 simp only [Bool.and_eq_true, decide_eq_true_eq] at h ⊢
 have := p2_mono (show a - 1 ≤ b - 1 by omega)
 omega
theorem least_in : ∀ (l : List Cl) (lv : Nat), lv ≤ 1330 → lv ≤ l.foldl (fun lv c => upL c lv) lv ∧ l.foldl (fun lv c => upL c lv) lv ≤ 1330 ∧ (l.foldl (fun lv c => upL c lv) lv ≤ 1329 → ∀ c ∈ l, inL c (l.foldl (fun lv c => upL c lv) lv) = true)
 | [], lv, h => ⟨Nat.le_refl _, h, fun _ c hc => by cases hc⟩
 | c :: l, lv, h => by
  obtain ⟨g1, g2⟩ := upL_ge c lv h
  obtain ⟨h1, h2, h3⟩ := least_in l (upL c lv) g2
  refine ⟨Nat.le_trans g1 h1, h2, fun h9 d hd => ?_⟩
  rcases List.mem_cons.1 hd with rfl | hd
  ·
   exact inL_up (upL_in h (Nat.le_trans h1 h9)) h1
  ·
   exact h3 h9 d hd
theorem of_state {l out : List Cv} (h : out.map Cv.cl = lastF (l.map Cv.cl)) {x : Cv} (hx : x ∈ out) : 1 ≤ x.st := by
 have hm : x.cl ∈ lastF (l.map Cv.cl) := by rw [← h]; exact List.mem_map_of_mem hx
 have := ((lastF_spec _).2.2 _ hm).1
 have h2 : x.cl.s = x.st := rfl
 omega
theorem of_in {l out : List Cv} (h : out.map Cv.cl = lastF (l.map Cv.cl)) {lv : Nat} (hl : lv = leastF (lastF (l.map Cv.cl))) (h9 : lv ≤ 1329) {x : Cv} (hx : x ∈ out) : inL x.cl lv = true := by
 have hm : x.cl ∈ lastF (l.map Cv.cl) := by rw [← h]; exact List.mem_map_of_mem hx
 have := (least_in (lastF (l.map Cv.cl)) 1 (by omega)).2.2
 unfold leastF at hl
 rw [← hl] at this
 exact this h9 _ hm
theorem of_one {l : List Cl} {lv : Nat} (hl : lv = leastF l) : 1 ≤ lv := by
 have := (least_in l 1 (by omega)).1
 unfold leastF at hl
 omega
end Go.Proofs.YtmfncapgikobkaaGreat

namespace Go.Proofs.YtmfncapgikobkaaGreat
set_option maxRecDepth 100000
set_option linter.unusedVariables false
set_option linter.unusedSimpArgs false
open Go.RowKit Nds Num
theorem stand_all (A : Option Addr) (c n : Nat) (l : List Cv) (w : World) (h : Cs w A c l) (hn : l.length = n) (hR : ∀ v ∈ l, CvR v) (hn9 : n ≤ 900000) :
  Calls Tryz.prog 26 #[.slice A n c] w (RetSt l w) := by
 rcases Nat.eq_zero_or_pos n with h0 | h0
 ·
  subst h0
  rw [List.eq_nil_of_length_eq_zero hn]
  exact standing_zero A c w
 ·
  exact standing_any A c n l w h hn hR h0 hn9
theorem nodes_all (A0 : Option Addr) (c0 n lv : Nat) (l : List Cv) (w : World) (h : Cs w A0 c0 l) (hn : l.length = n) (hn9 : n ≤ 600) (hR : ∀ v ∈ l, CvR v) (hS : ∀ v ∈ l, 1 ≤ v.st) (hI : ∀ v ∈ l, inL v.cl lv = true) (hl1 : 1 ≤ lv) (hl2 : lv ≤ 1329) :
  Calls Tryz.prog 28 #[.slice A0 n c0, .int .i64 (lv : Int)] w (RetNs lv l w) := by
 rcases Nat.eq_zero_or_pos n with h0 | h0
 ·
  subst h0
  rw [List.eq_nil_of_length_eq_zero hn]
  refine (nodes_zero A0 c0 lv w).mono ?_
  rintro e w' ⟨rfl, hb⟩
  refine ⟨_, [], rfl, ?_, List.Perm.refl _, (fun u hu => by cases hu), hb⟩
  rw [treeZ_nil]
  exact ownN_none _ _
 ·
  exact nodes_any A0 c0 n lv l w h hn h0 hn9 hR hS hI hl1 hl2
theorem right_canonC {s : Bool} {xs : List Nat} (h : rightI s xs = true) : CanonI s xs := by
 unfold rightI at h
 rw [Bool.and_eq_true] at h
 refine ⟨?_, fun hs e => ?_⟩
 ·
  have h1 := h.1
  simp [rightB] at h1
  unfold Canon
  rw [List.getLast?_eq_getElem?]
  intro e
  rcases h1 with rfl | h1
  ·
   simp at e
  ·
   rw [e] at h1
   exact h1 rfl
 ·
  subst hs e
  simp at h
theorem no_arg {l : List Cv} {w0 wr w5 : World} {x : Cv} (hbb : Below w0.heap.size w0 wr) (hb5 : Below wr.heap.size wr w5) (hx : x ∈ l) (hok : okC x = false) :
  RetOf l w0 (.returned (.tuple #[.agg #[.slice none 0 0], .int .i64 1])) (w5.setCell ⟨w0.heap.size, 0, none⟩ (.slice none 0 0)) := by
 refine ⟨_, [], 1, rfl, ownN_none _ _, (hbb.trans (hb5.mono hbb.size)).setCell (Nat.le_refl _) _, fun _ => ⟨rfl, rfl⟩, fun h => ?_⟩
 have := List.all_eq_true.1 h x hx
 rw [hok] at this
 cases this
set_option maxRecDepth 100000 in
set_option maxHeartbeats 800000 in
theorem cof_any (A : Option Addr) (c n : Nat) (l : List Cv) (w : World) (h : Cs w A c l) (hn : l.length = n) (hn9 : n ≤ 600) (hln : ∀ v ∈ l, v.xs.length ≤ 60000 ∧ v.ys.length ≤ 60000) :
  Calls Tryz.prog 9 #[.slice A n c] w (RetOf l w) := by
 have hcap := h.cap
 rw [hn] at hcap
 obtain ⟨W, hW⟩ : ∃ W : World, W = w.alloc (.cells #[.slice none 0 0] 27) := ⟨_, rfl⟩
 have hb : Below w.heap.size w W := by rw [hW]; exact (Below.refl _ w).alloc (Nat.le_refl _) _
 have hq : W.heap[w.heap.size]? = some (.cells #[.slice none 0 0] 27) := by rw [hW]; exact heap_alloc_new w _
 have HWL := Lib.hid (show w.heap.size < W.heap.size by rw [hW]; simp)
 have HC := Lib.hid h
 have HN := Lib.hid hn
 have HL := Lib.hid hln
 have HW := Lib.hid hW
 have HB := Lib.hid hb
 have HQ := Lib.hid hq
 clear h hn hln hW hb hq
 go_enter Tryz.func9, Tryz.ntmps9
 go_wp2_with fail
 go_loopw [10] (fun z wr => ∃ (k : Nat), k ≤ n ∧ z = .int .i64 k ∧ (∀ j, j < k → okC (cat l j) = true) ∧ Below w.heap.size w wr ∧ wr.heap[w.heap.size]? = some (.cells #[.slice none 0 0] 27)) (fun z _ => n - (intOf z).toNat)
 case atStart => exact ⟨0, by omega, rfl, fun j hj => by omega, by rw [← HW.out]; exact HB.out, by rw [← HW.out]; exact HQ.out⟩
 case round =>
  obtain ⟨k, hk, rfl, hall, hbb, hqq⟩ := hrel
  have HAL := Lib.hid hall
  have HBB := Lib.hid hbb
  have HQQ := Lib.hid hqq
  have g0 := one_cell hqq
  have g1 := one_free hqq
  by_cases hlt : k < n
  ·
   have i1 : (k : Int) < (n : Int) := by omega
   have i2 : (0 : Int) ≤ (k : Int) := by omega
   have t1 : decide ((k : Int) < (n : Int)) = true := decide_eq_true i1
   obtain ⟨b, off, rfl, hbl, hcl⟩ := (HC.out.below hbb).at_ (by rw [HN.out]; omega)
   obtain ⟨c1_, c2_, c3_, c4_, c5_⟩ := hcl k (by rw [HN.out]; exact hlt)
   have hxl := cat_mem (l := l) (i := k) (by rw [HN.out]; exact hlt)
   have hxu := (HC.out.below hbb).1 _ hxl
   have hln := HL.out _ hxl
   obtain ⟨x, hx⟩ : ∃ x, x = cat l k := ⟨_, rfl⟩
   rw [← hx] at c1_ c2_ c3_ c4_ c5_ hxu hln hxl
   have hv1 := hxu.1.cap
   have hv2 := hxu.2.1.cap
   have HXX := Lib.hid hx
   have HXL := Lib.hid hxl
   have HLN := Lib.hid hln
   have hbA : Below wr.heap.size wr (wr.alloc (.cells #[.bool x.sx, .slice x.ax x.xs.length x.cx, .bool x.sy, .slice x.ay x.ys.length x.cy, .int .u8 x.st] 47)) := (Below.refl _ wr).alloc (Nat.le_refl _) _
   have HBA := Lib.hid hbA
   have HCV := Lib.hid (CvAt.new wr x 47)
   have HXU := Lib.hid (hxu.below hbA)
   have HLA := Lib.hid (show wr.heap.size < (wr.alloc (.cells #[.bool x.sx, .slice x.ax x.xs.length x.cx, .bool x.sy, .slice x.ay x.ys.length x.cy, .int .u8 x.st] 47)).heap.size by simp)
   have hgl := lt_of_cell g0
   dsimp only at hgl
   obtain ⟨rX, hrX⟩ : ∃ r, r = rightI x.sx x.xs := ⟨_, rfl⟩
   obtain ⟨rY, hrY⟩ : ∃ r, r = rightI x.sy x.ys := ⟨_, rfl⟩
   have HRX := Lib.hid hrX
   have HRY := Lib.hid hrY
   have HOK := Lib.hid (show okC x = (rX && rY) by unfold okC; rw [← hrX, ← hrY])
   clear hx hxl hxu hcl hrX hrY hbA hbb hqq hln
   cases rX with
   | false =>
    go_wp2_with (go_at_call 25; go_loud (refine (bright_any x.sx x.ax x.cx x.xs _ HXU.out.1 HLN.out.1).mono ?_; rintro e w5 ⟨rfl, b5⟩; rw [← HRX.out]; have HB5 := Lib.hid (HBA.out.trans (b5.mono HBA.out.size)); have q0 := one_cell ((HB5.out.block w.heap.size hgl).trans HQQ.out); have q1 := one_free ((HB5.out.block w.heap.size hgl).trans HQQ.out); clear b5))
    have e1 := World.cell?_setCell_same _ _ (.slice none 0 0) q0
    exact bodyPost_ret (v := .tuple #[.agg #[.slice none 0 0], .int .i64 1]) (by simp [results, Tryz.results9, go_sem, e1]) rfl (no_arg HBB.out HB5.out HXL.out (HOK.out.trans rfl))
   | true =>
    have sX := Lib.hid True.intro
    cases rY with
    | false =>
     go_wp2_with (first
      | (have _t := sX; go_at_call 25; clear _t; go_loud (clear sX; have sY := Lib.hid True.intro; refine (bright_any x.sx x.ax x.cx x.xs _ HXU.out.1 HLN.out.1).mono ?_; rintro e w5 ⟨rfl, b5⟩; rw [← HRX.out]; have HB5 := Lib.hid (HBA.out.trans (b5.mono HBA.out.size)); have HXU5 := Lib.hid (HXU.out.below b5); obtain ⟨k0_, k1_, k2_, k3_, k4_⟩ := HCV.out.below (b5.block wr.heap.size HLA.out); have q0 := one_cell ((HB5.out.block w.heap.size hgl).trans HQQ.out); have q1 := one_free ((HB5.out.block w.heap.size hgl).trans HQQ.out); clear b5))
      | (have _t := sY; go_at_call 25; clear _t; go_loud (clear sY; refine (bright_any x.sy x.ay x.cy x.ys _ HXU5.out.2.1 HLN.out.2).mono ?_; rintro e w6 ⟨rfl, b6⟩; rw [← HRY.out]; have HB6 := Lib.hid (HB5.out.trans (b6.mono HB5.out.size)); have q0 := one_cell ((HB6.out.block w.heap.size hgl).trans HQQ.out); have q1 := one_free ((HB6.out.block w.heap.size hgl).trans HQQ.out); clear b6)))
     have e1 := World.cell?_setCell_same _ _ (.slice none 0 0) q0
     exact bodyPost_ret (v := .tuple #[.agg #[.slice none 0 0], .int .i64 1]) (by simp [results, Tryz.results9, go_sem, e1]) rfl (no_arg HBB.out HB6.out HXL.out (HOK.out.trans rfl))
    | true =>
     go_wp2_with (first
      | (have _t := sX; go_at_call 25; clear _t; go_loud (clear sX; have sY := Lib.hid True.intro; refine (bright_any x.sx x.ax x.cx x.xs _ HXU.out.1 HLN.out.1).mono ?_; rintro e w5 ⟨rfl, b5⟩; rw [← HRX.out]; have HB5 := Lib.hid (HBA.out.trans (b5.mono HBA.out.size)); have HXU5 := Lib.hid (HXU.out.below b5); obtain ⟨k0_, k1_, k2_, k3_, k4_⟩ := HCV.out.below (b5.block wr.heap.size HLA.out); clear b5))
      | (have _t := sY; go_at_call 25; clear _t; go_loud (clear sY; refine (bright_any x.sy x.ay x.cy x.ys _ HXU5.out.2.1 HLN.out.2).mono ?_; rintro e w6 ⟨rfl, b6⟩; rw [← HRY.out]; have HB6 := Lib.hid (HB5.out.trans (b6.mono HB5.out.size)); clear b6)))
     go_roundw
     case rel => exact ⟨k + 1, by omega, by go_num, fun j hj => by
      rcases Nat.lt_or_ge j k with h | h
      ·
       exact HAL.out j h
      ·
       have : j = k := by omega
       subst this
       rw [← HXX.out, HOK.out]; rfl, HBB.out.trans (HB6.out.mono HBB.out.size), (HB6.out.block w.heap.size hgl).trans HQQ.out⟩
     case measure => simp [intOf]; omega
  ·
   obtain rfl : k = n := by omega
   have t1 : decide ((k : Int) < (k : Int)) = false := decide_eq_false (by omega)
   have hok : l.all okC = true := List.all_eq_true.2 fun v hv => by
    obtain ⟨j, hj, rfl⟩ := List.getElem_of_mem hv
    have := hall j (by have := HN.out; omega)
    rwa [cat_get hj] at this
   have hR : ∀ v ∈ l, CvR v := fun v hv => by
    have h1 := List.all_eq_true.1 hok v hv
    unfold okC at h1
    obtain ⟨h2, h3⟩ := Bool.and_eq_true_iff.1 h1
    exact ⟨right_canonC h2, right_canonC h3, HL.out v hv⟩
   have HR := Lib.hid hR
   have HOKL := Lib.hid hok
   clear hR hok hall hbb hqq
   have hgl := lt_of_cell g0
   dsimp only at hgl
   obtain ⟨lv, hlv⟩ : ∃ lv, lv = leastF (lastF (l.map Cv.cl)) := ⟨_, rfl⟩
   have HLV := Lib.hid hlv
   clear hlv
   by_cases hbig : 1329 < lv
   ·
    have t2 : decide ((1329 : Int) < (lv : Int)) = true := decide_eq_true (by omega)
    go_wp2_with (first
     | (go_at_call 26; go_loud (refine (stand_all A c k l _ (HC.out.below HBB.out) HN.out HR.out (by omega)).mono ?_; rintro e w5 ⟨v, out, rfl, o1, o2, o3, o4, b5⟩; have hU5 : ∀ x ∈ out, CvU w5 x := (fun x hx => (((HC.out.below HBB.out).below b5).1 x (o2 x hx))); obtain ⟨A1, c1, rfl, hcs, _, _⟩ := o3.cs hU5; have hcap1 := hcs.cap; have HS := Lib.hid hcs; have HO1 := Lib.hid o1; have HO2 := Lib.hid o2; have HO4 := Lib.hid o4; have HB5 := Lib.hid b5; have q0 := one_cell ((b5.block w.heap.size hgl).trans HQQ.out); have q1 := one_free ((b5.block w.heap.size hgl).trans HQQ.out); clear o1 o2 o3 o4 b5 hcs hU5))
     | (go_at_call 27; go_loud (refine (least_any A1 c1 out.length out _ HS.out rfl (fun x hx => HR.out x (HO2.out x hx)) (by have := HO4.out; have := HN.out; omega)).mono ?_; rintro e w6 ⟨rfl, b6⟩; rw [HO1.out, ← HLV.out]; have HB6 := Lib.hid b6; have q0 := one_cell ((b6.block w.heap.size (Nat.lt_of_lt_of_le hgl HB5.out.size)).trans ((HB5.out.block w.heap.size hgl).trans HQQ.out)); have q1 := one_free ((b6.block w.heap.size (Nat.lt_of_lt_of_le hgl HB5.out.size)).trans ((HB5.out.block w.heap.size hgl).trans HQQ.out)); clear b6)))
    have e1 := World.cell?_setCell_same _ _ (.slice none 0 0) q0
    refine bodyPost_ret (v := .tuple #[.agg #[.slice none 0 0], .int .i64 4]) (by simp [results, Tryz.results9, go_sem, e1]) rfl ?_
    have hW6 : Below w.heap.size w w6 := (HBB.out.trans (HB5.out.mono HBB.out.size)).trans (HB6.out.mono (Nat.le_trans HBB.out.size HB5.out.size))
    refine ⟨_, [], 4, rfl, ownN_none _ _, hW6.setCell (Nat.le_refl _) _, fun h => ?_, fun _ => ⟨fun _ => ⟨rfl, rfl⟩, fun h => ?_⟩⟩
    ·
     rw [HOKL.out] at h; cases h
    ·
     have := HLV.out; omega
   ·
    have t2 : decide ((1329 : Int) < (lv : Int)) = false := decide_eq_false (by omega)
    go_wp2_with (first
     | (go_at_call 26; go_loud (refine (stand_all A c k l _ (HC.out.below HBB.out) HN.out HR.out (by omega)).mono ?_; rintro e w5 ⟨v, out, rfl, o1, o2, o3, o4, b5⟩; have hU5 : ∀ x ∈ out, CvU w5 x := (fun x hx => (((HC.out.below HBB.out).below b5).1 x (o2 x hx))); obtain ⟨A1, c1, rfl, hcs, _, _⟩ := o3.cs hU5; have hcap1 := hcs.cap; have HS := Lib.hid hcs; have HO1 := Lib.hid o1; have HO2 := Lib.hid o2; have HO4 := Lib.hid o4; have HB5 := Lib.hid b5; have q0 := one_cell ((b5.block w.heap.size hgl).trans HQQ.out); have q1 := one_free ((b5.block w.heap.size hgl).trans HQQ.out); clear o1 o2 o3 o4 b5 hcs hU5))
     | (go_at_call 27; go_loud (refine (least_any A1 c1 out.length out _ HS.out rfl (fun x hx => HR.out x (HO2.out x hx)) (by have := HO4.out; have := HN.out; omega)).mono ?_; rintro e w6 ⟨rfl, b6⟩; rw [HO1.out, ← HLV.out]; have HB6 := Lib.hid b6; have q0 := one_cell ((b6.block w.heap.size (Nat.lt_of_lt_of_le hgl HB5.out.size)).trans ((HB5.out.block w.heap.size hgl).trans HQQ.out)); have q1 := one_free ((b6.block w.heap.size (Nat.lt_of_lt_of_le hgl HB5.out.size)).trans ((HB5.out.block w.heap.size hgl).trans HQQ.out)); clear b6))
     | (go_at_call 28; go_loud (have h1 := HS.out.below HB6.out; have h2 : out.length ≤ 600 := (by have := HO4.out; have := HN.out; omega); have h3 : ∀ v ∈ out, CvR v := (fun x hx => HR.out x (HO2.out x hx)); have h4 : ∀ v ∈ out, 1 ≤ v.st := (fun x hx => of_state HO1.out hx); have h9 : lv ≤ 1329 := (by omega); have h5 : ∀ v ∈ out, inL v.cl lv = true := (fun x hx => of_in HO1.out HLV.out h9 hx); have h6 := of_one HLV.out; have HC7 := Lib.hid (nodes_all A1 c1 out.length lv out w6 h1 rfl h2 h3 h4 h5 h6 h9); clear h1 h2 h3 h4 h5 h6 h9; refine HC7.out.mono ?_; rintro e w7 ⟨v7, l7, rfl, p1, p2, p3, b7⟩; obtain ⟨A7, c7, hv7, hN7, -, -⟩ := p1.shape; obtain ⟨n7, hn7⟩ : ∃ n, n = (enc (treeZ lv l7) []).1.length := ⟨_, rfl⟩; rw [← hn7] at hv7; subst hv7; have hc7 := hN7.cap; rw [← hn7] at hc7; clear hN7 hn7; have HP1 := Lib.hid p1; have HP2 := Lib.hid p2; have HP3 := Lib.hid p3; have HB7 := Lib.hid b7; have q0 := one_cell ((b7.block w.heap.size (Nat.lt_of_lt_of_le hgl (Nat.le_trans HB5.out.size HB6.out.size))).trans ((HB6.out.block w.heap.size (Nat.lt_of_lt_of_le hgl HB5.out.size)).trans ((HB5.out.block w.heap.size hgl).trans HQQ.out))); have q1 := one_free ((b7.block w.heap.size (Nat.lt_of_lt_of_le hgl (Nat.le_trans HB5.out.size HB6.out.size))).trans ((HB6.out.block w.heap.size (Nat.lt_of_lt_of_le hgl HB5.out.size)).trans ((HB5.out.block w.heap.size hgl).trans HQQ.out))); clear p1 p2 p3 b7)))
    have hset := heap_setCell_same w7 w.heap.size 0 _ _ (.slice A7 n7 c7) ((HB7.out.block w.heap.size (Nat.lt_of_lt_of_le hgl (Nat.le_trans HB5.out.size HB6.out.size))).trans ((HB6.out.block w.heap.size (Nat.lt_of_lt_of_le hgl HB5.out.size)).trans ((HB5.out.block w.heap.size hgl).trans HQQ.out)))
    have e1 : (w7.setCell ⟨w.heap.size, 0, none⟩ (.slice A7 n7 c7)).cell? ⟨w.heap.size, 0, none⟩ = some (.slice A7 n7 c7) := World.cell?_setCell_same _ _ (.slice A7 n7 c7) q0
    refine bodyPost_ret (v := .tuple #[.agg #[.slice A7 n7 c7], .int .i64 0]) (by simp [results, Tryz.results9, go_sem, e1]) rfl ?_
    have hs56 := Nat.le_trans HB5.out.size HB6.out.size
    have hW7 : Below w.heap.size w w7 := ((HBB.out.trans (HB5.out.mono HBB.out.size)).trans (HB6.out.mono (Nat.le_trans HBB.out.size HB5.out.size))).trans (HB7.out.mono (Nat.le_trans HBB.out.size hs56))
    refine ⟨_, _, 0, rfl, (HP1.out.gbr (gb_setCell w7 ⟨w.heap.size, 0, none⟩ (.slice A7 n7 c7)) (own_dec (fun q hq e => ?_))).lowC (Nat.le_trans HBB.out.size hs56), hW7.setCell (Nat.le_refl _) _, fun h => ?_, fun _ => ⟨fun h => ?_, fun _ => ⟨rfl, l7, ?_, ?_, ?_⟩⟩⟩
    ·
     have h1 := (HP1.out.lt q hq).1
     have h2 := Option.some.inj e
     dsimp only at h2
     omega
    ·
     rw [HOKL.out] at h; cases h
    ·
     rw [← HLV.out] at h; omega
    ·
     rw [← HLV.out]
    ·
     rw [← HLV.out, ← HO1.out, List.map_map]
     exact HP2.out
    ·
     rw [← HLV.out]
     exact HP3.out
end Go.Proofs.YtmfncapgikobkaaGreat

namespace Go.Proofs.YtmfncapgikobkaaGreat
set_option maxRecDepth 100000
set_option linter.unusedVariables false
set_option linter.unusedSimpArgs false
open Nds
theorem upL_le {c : Cl} {k : Nat} (h : inL c k = true) : ∀ (d lv : Nat), lv + d = k → upL c lv ≤ k
 | 0, lv, e => by
  obtain rfl : lv = k := by omega
  rw [upL_stop h]
  exact Nat.le_refl _
 | d + 1, lv, e => by
  by_cases h9 : lv ≤ 1329
  ·
   cases hq : inL c lv with
   | true => rw [upL_stop hq]; omega
   | false => rw [upL_next h9 hq]; exact upL_le h d (lv + 1) (by omega)
  ·
   rw [upL_top h9]; omega
theorem foldU_le {k : Nat} : ∀ (l : List Cl) (lv : Nat), lv ≤ k → (∀ c ∈ l, inL c k = true) → l.foldl (fun lv c => upL c lv) lv ≤ k
 | [], lv, h, _ => h
 | c :: l, lv, h, hi => foldU_le l _ (upL_le (hi c (by simp)) (k - lv) lv (by omega)) fun d hd => hi d (by simp [hd])
theorem least_le {l : List Cl} {k : Nat} (hk : 1 ≤ k) (h : ∀ c ∈ l, inL c k = true) : leastF l ≤ k := foldU_le l 1 hk h
theorem lk_shift (h : Int) : ∀ (l : List Cl) (x y : Int), lk (l.map (shC h)) x y = lk l (x - h) (y - h)
 | [], _, _ => rfl
 | c :: l, x, y => by
  rw [List.map_cons]
  unfold lk
  rw [lk_shift h l x y]
  have e1 : (shC h c).x = c.x + h := rfl
  have e2 : (shC h c).y = c.y + h := rfl
  have e3 : (shC h c).s = c.s := rfl
  by_cases hc : c.x = x - h ∧ c.y = y - h
  ·
   rw [if_pos hc, if_pos (by rw [e1, e2]; omega), e3]
  ·
   rw [if_neg hc, if_neg (by rw [e1, e2]; omega)]
theorem mk_form (v : Int) (a b c d : Tr) : mk v a b c d = .e ∨ mk v a b c d = .n v a b c d := by
 unfold mk
 split
 ·
  exact .inl rfl
 ·
  exact .inr rfl
theorem of_quadOf {L : List Cl} (hs : Srt L) (hst : ∀ c ∈ L, 1 ≤ c.s ∧ c.s ≤ 255) {lv : Nat} (hlv : lv = leastF L) (h9 : lv ≤ 1329) {l' : List Cv} (hp : (l'.map Cv.cn).Perm (L.map (shC (p2 (lv - 1))))) (hb : HiB lv 0 0 l') :
  QuadOf L (enc (treeZ lv l') []).1 := by
 obtain ⟨m, rfl⟩ : ∃ m, lv = m + 1 := ⟨lv - 1, by have := of_one hlv; omega⟩
 rw [Nat.add_sub_cancel] at hp
 have hun : (L.map (shC (p2 m))).Pairwise (fun a b => ¬ (a.x = b.x ∧ a.y = b.y)) := by
  rw [List.pairwise_map]
  refine (srt_unlike hs).imp fun {a b} h e => h ⟨?_, ?_⟩
  ·
   have := e.1
   simp only [shC] at this
   omega
  ·
   have := e.2
   simp only [shC] at this
   omega
 have hun' := unlike_perm hp.symm hun
 have hst' : ∀ v ∈ l', 1 ≤ v.st ∧ v.st ≤ 255 := fun v hv => by
  obtain ⟨c, hc, e⟩ := List.mem_map.1 (hp.mem_iff.1 (List.mem_map_of_mem hv))
  have h1 := hst c hc
  have h2 : c.s = (v.st : Int) := congrArg Cl.s e
  omega
 have hw := treeZ_wf (m + 1) l' h9 hst'
 have hc : ∀ x y, cellC (treeZ (m + 1) l') x y = lk L (x - p2 m) (y - p2 m) := fun x y => by
  rw [treeZ_cells (m + 1) l' 0 0 h9 hst' hb hun', lk_perm hun' hun hp, lk_shift]
  congr 1 <;> omega
 obtain ⟨t, ht⟩ : ∃ t, t = treeZ (m + 1) l' := ⟨_, rfl⟩
 have hf : t = .e ∨ ∃ a b c d, t = .n ((m : Int) + 1) a b c d := by
  rw [ht]
  rcases mk_form ((m : Int) + 1) (treeZ m (l'.filter (inQ m 0))) (treeZ m (l'.filter (inQ m 1))) (treeZ m (l'.filter (inQ m 2))) (treeZ m (l'.filter (inQ m 3))) with h | h
  ·
   exact .inl h
  ·
   exact .inr ⟨_, _, _, _, h⟩
 rw [← ht] at hw hc ⊢
 have hM : ∀ x y, cellM t x y = lk L x y := fun x y => by
  have h1 := hc (x + p2 m) (y + p2 m)
  rw [show x + p2 m - p2 m = x by omega, show y + p2 m - p2 m = y by omega] at h1
  rw [← h1]
  rcases hf with rfl | ⟨a, b, c, d, rfl⟩
  ·
   rfl
  ·
   unfold cellM
   have e : (Tr.n ((m : Int) + 1) a b c d).lv.toNat - 1 = m := by
    show ((m : Int) + 1).toNat - 1 = m
    omega
   rw [e]
 refine ⟨t, m + 1, hw, fun k e => ?_, ?_, rfl, hM⟩
 ·
  rcases hf with h | ⟨a, b, c, d, h⟩ <;> rw [h] at e <;> cases e
 ·
  cases hh : holT t with
  | false => rfl
  | true =>
   exfalso
   obtain ⟨h1, _⟩ := hol_iff.1 hh
   rcases hf with rfl | ⟨a, b, c2, d, rfl⟩
   ·
    simp [Tr.lv] at h1
   ·
    have hl : ((m : Int) + 1) = (m : Int) + 1 := rfl
    have h1' : 1 < (m : Int) + 1 := h1
    obtain ⟨k, rfl⟩ : ∃ k, m = k + 1 := ⟨m - 1, by omega⟩
    have hwi := wf_inn hw hh
    have hni : wfT ((k + 1 : Nat) : Int) (innT (.n (((k + 1 : Nat) : Int) + 1) a b c2 d)) := by
     rwa [show (((k + 1 + 1 : Nat) : Int) - 1) = ((k + 1 : Nat) : Int) by omega] at hwi
    have hle := least_le (l := L) (k := k + 1) (by omega) fun c hcL => by
     have h2 := fine_lk (srt_unlike hs) hcL
     have h3 := (hst c hcL).1
     have h4 := hol_cells hw hh c.x c.y
     rw [hM, h2] at h4
     have hlv : (innT (.n (((k + 1 : Nat) : Int) + 1) a b c2 d)).lv.toNat - 1 = k := by
      rcases inn_lv (.n (((k + 1 : Nat) : Int) + 1) a b c2 d) with e | e
      ·
       exact absurd e (inn_ne hw hh)
      ·
       rw [e]
       show ((((k + 1 : Nat) : Int) + 1) - 1).toNat - 1 = k
       omega
     unfold cellM at h4
     rw [hlv] at h4
     have h5 := cell_in _ (k + 1) _ _ hni (by rw [h4]; omega)
     have h6 := p2_succ k
     unfold inL inH
     simp only [Bool.and_eq_true, decide_eq_true_eq, Nat.add_sub_cancel]
     omega
    omega
theorem OfC.quad {l : List Cv} {out : List Nd} {er : Int} (h : OfC l out er) (hok : l.all okC = true) (hst : ∀ v ∈ l, v.st ≤ 255) (h9 : leastF (lastF (l.map Cv.cl)) ≤ 1329) : er = 0 ∧ QuadOf (lastF (l.map Cv.cl)) out := by
 obtain ⟨e, l', rfl, hp, hb⟩ := (h.2 hok).2 h9
 refine ⟨e, of_quadOf (lastF_srt _) (lastF_fine fun c hc => ?_).1 rfl h9 hp hb⟩
 obtain ⟨v, hv, rfl⟩ := List.mem_map.1 hc
 have := hst v hv
 show 0 ≤ (v.st : Int) ∧ (v.st : Int) ≤ 255
 omega
end Go.Proofs.YtmfncapgikobkaaGreat

namespace Go.Proofs.YtmfncapgikobkaaGreat
set_option maxRecDepth 100000
set_option linter.unusedVariables false
set_option linter.unusedSimpArgs false
open Go.RowKit Nds Num
structure RcW (w : World) (n : Nat) (l : List Nd) (gr : Nat) (L : List Gv) (i : Nat) (m : Int) (W : World) : Prop where
 b : Below w.heap.size w W
 row : OwnG W w.heap.size gr (n + 1) L
 fine : ∀ j, j ≤ i → GIn W (gat L j) (countT (den l j) : Nat)
 now : i < n → GIn W (gat L (i + 1)) m
 zero : ∀ j, i + 1 < j → j ≤ n → gat L j = gv0
theorem RcW.put {w : World} {n : Nat} {l : List Nd} {gr : Nat} {L : List Gv} {i : Nat} {m m2 : Int} {W : World} (h : RcW w n l gr L i m W) (hi : i < n) {s : Bool} {B : Option Addr} {d : Nat} {xs : List Nat} (hu : Us W B d xs) (hc : CanonI s xs) (hv : ival s xs = m2) :
  RcW w n l gr (L.set (i + 1) ⟨s, B, d, xs⟩) i m2 ((W.setCell ⟨gr, (i + 1) * 2, none⟩ (.bool s)).setCell ⟨gr, (i + 1) * 2 + 1, none⟩ (.slice B xs.length d)) := by
 have hg := setC_two W gr ((i + 1) * 2) ((i + 1) * 2 + 1) (.bool s) (.slice B xs.length d)
 obtain ⟨r1, r2, r3, r4, r5⟩ := h.row.row
 refine ⟨h.b.grown hg h.b.size (fun q e => by cases e; exact r1), h.row.put (by omega) ⟨s, B, d, xs⟩, fun j hj => ?_, fun _ => ?_, fun j hj hn => ?_⟩
 ·
  rw [gat_set_ne (by omega)]
  exact (h.fine j hj).over r5 hg
 ·
  rw [gat_set_same (by rw [h.row.1]; omega)]
  exact ⟨us_kept hu (fun q h1 h2 => hg.block q h1 (fun e => h2 (by cases e; rfl))) hg.size (us_off hu r5), hc, hv⟩
 ·
  rw [gat_set_ne (by omega)]
  exact h.zero j hj hn
theorem RcW.step {w : World} {n : Nat} {l : List Nd} {gr : Nat} {L : List Gv} {i : Nat} {W : World} (h : RcW w n l gr L i (countT (den l (i + 1)) : Nat) W) (hi : i < n) : RcW w n l gr L (i + 1) 0 W :=
 ⟨h.b, h.row, fun j hj => by
  rcases Nat.lt_or_ge i j with h1 | h1
  ·
   rw [show j = i + 1 by omega]; exact h.now hi
  ·
   exact h.fine j h1, fun hn => by rw [h.zero (i + 1 + 1) (by omega) (by omega)]; exact GIn.zero W, fun j hj hn => h.zero j (by omega) hn⟩
end Go.Proofs.YtmfncapgikobkaaGreat

namespace Go.Proofs.YtmfncapgikobkaaGreat
set_option maxRecDepth 100000
set_option linter.unusedVariables false
set_option linter.unusedSimpArgs false
open Go.RowKit Nds Num
theorem Cs.cells {w : World} {A : Option Addr} {c : Nat} {l : List Cv} {ad : Addr} (h : Cs w A c l) (e : A = some ad) : ∀ j u, (cvcs l)[j]? = some u → w.cell? (ad.add j) = some u := by
 intro j u hu
 have hj := (List.getElem?_eq_some_iff.1 hu).1
 rw [cvcs_len] at hj
 obtain ⟨b, off, e2, _, hc⟩ := h.at_ (by omega)
 rw [e] at e2
 cases e2
 obtain ⟨i, k, rfl, hk⟩ : ∃ i k, j = i * 5 + k ∧ k < 5 := ⟨j / 5, j % 5, by omega, by omega⟩
 have hi : i < l.length := by omega
 rw [cvcs_at l i k hi hk] at hu
 obtain ⟨h0, h1, h2, h3, h4⟩ := hc i hi
 have hadd : (⟨b, off, none⟩ : Addr).add (i * 5 + k) = ⟨b, off + i * 5 + k, none⟩ := by
  unfold Addr.add
  split
  ·
   rename_i h; rw [show off + i * 5 + k = off by omega]
  ·
   simp; omega
 rw [hadd]
 match k, hk with
 | 0, _ => exact h0.trans hu
 | 1, _ => exact h1.trans hu
 | 2, _ => exact h2.trans hu
 | 3, _ => exact h3.trans hu
 | 4, _ => exact h4.trans hu
theorem run_append_cs (w : World) (base : Nat) (v : Value) (xs ys : List Cv) (ty : TypeId) (A : Option Addr) (m c : Nat) (how : OwnC w base v xs) (hN : Cs w A c ys) (hm : ys.length = m) (hA : A = none → c = 0) (hs : xs.length + m ≤ 1000000) (hb : base ≤ w.heap.size) :
  ∃ v' w', (Builtin.append_ #[22, 22] ty #[v, .slice A m c]).run Tryz.prog w = .ok v' w' ∧ OwnC w' base v' (xs ++ ys) ∧ w.grownBy w' v.ownBlock ∧ (v'.ownBlock = v.ownBlock ∨ v'.ownBlock = some w.heap.size) := by
 obtain ⟨i0, hi, hz0, hz1, hz2⟩ := info_parts Tryz.infoC
 cases A with
 | none =>
  have hc := hA rfl
  have hy : ys = [] := by
   rcases Nat.eq_zero_or_pos ys.length with h | h
   ·
    exact List.eq_nil_of_length_eq_zero h
   ·
    obtain ⟨b, off, e, _⟩ := hN.at_ h
    cases e
  subst hy
  subst hc
  subst hm
  refine ⟨v, w, run_append_owned_none (P := Tryz.prog) (w := w) base _ ty 47 i0 5 Tryz.underlying22 hi v _ _ how, ?_, ⟨rfl, rfl, rfl, Nat.le_refl _, fun _ _ _ => rfl⟩, .inl rfl⟩
  rw [List.append_nil]
  exact how
 | some ad => exact run_append_cells w base v xs ys ty ad m c how (hN.cells rfl) hm hs hb
theorem wpList_append_cs (w : World) {ops : Array Oper} {rest : List Oper} {o : Oper} {a : Act} {Q : Exit → Act → World → Prop} (hg : o.guard = none) (s x : Operand)
  (hop : o.op = Op.call { callee := Callee.builtin Builtin.append, args := #[s, x], argTypes := #[22, 22] }) (base : Nat) (v : Value) (xs ys : List Cv) (A : Option Addr) (m c : Nat)
  (hs : a.eval s = v) (hx : a.eval x = .slice A m c) (how : OwnC w base v xs) (hN : Cs w A c ys) (hm : ys.length = m) (hA : A = none → c = 0) (hsz : xs.length + m ≤ 1000000) (hb : base ≤ w.heap.size)
  (hK : ∀ v' w', OwnC w' base v' (xs ++ ys) → w.grownBy w' v.ownBlock → (v'.ownBlock = v.ownBlock ∨ v'.ownBlock = some w.heap.size) → wpList Tryz.prog ops Q rest (a.put o.dst v') w') :
  wpList Tryz.prog ops Q (o :: rest) a w := by
 refine wpList_plain hg fun K hK' => ?_
 obtain ⟨v', w', hrun, h1, h2, h3⟩ := run_append_cs w base v xs ys o.type A m c how hN hm hA hsz hb
 unfold Oper.wp execOp
 simp only [hop, resolve, invoke, builtin, Sem.run_bind, Sem.run_pure, Result.andThen_ok, List.map_toArray, List.map_cons, List.map_nil, hs, hx, hrun]
 exact hK' _ _ (hK v' w' h1 h2 h3)
def Ori (base : Nat) (P : Nat → Prop) (u : Cv) : Prop := (0 < u.xs.length → ∀ a, u.ax = some a → base ≤ a.block ∨ P a.block) ∧ (0 < u.ys.length → ∀ a, u.ay = some a → base ≤ a.block ∨ P a.block)
structure RlO (base : Nat) (P : Nat → Prop) (W : World) (v : Value) (M : List Cv) : Prop where
 o : OwnC W base v M
 ok : ∀ u ∈ M, CvU W u ∧ CvR u ∧ (∀ q, v.ownBlock = some q → Off q u) ∧ Ori base P u
theorem RlO.nil (base : Nat) (P : Nat → Prop) (W : World) : RlO base P W (.slice none 0 0) [] := ⟨OwnC.nil W base, fun u hu => by cases hu⟩
theorem len_near {s : Bool} {xs : List Nat} {z : Int} (hc : CanonI s xs) (hv : ival s xs = z) (h0 : -p2 1330 ≤ z) (h1 : z ≤ p2 1330) : xs.length ≤ 50 := by
 refine len_ival hc hv 50 ?_
 obtain ⟨M, hM⟩ : ∃ M, M = 50 := ⟨_, rfl⟩
 obtain ⟨N, hN⟩ : ∃ N, N = 1330 := ⟨_, rfl⟩
 rw [← hN] at h0 h1
 have h2 : (p2 N).natAbs < 4294967296 ^ M := by
  unfold p2
  rw [show ((2 : Int) ^ N).natAbs = 2 ^ N by rw [Int.natAbs_pow]; rfl, show (4294967296 : Nat) = 2 ^ 32 by decide, ← Nat.pow_mul]
  exact Nat.pow_lt_pow_right (by decide) (by omega)
 rw [← hM]
 omega
end Go.Proofs.YtmfncapgikobkaaGreat
