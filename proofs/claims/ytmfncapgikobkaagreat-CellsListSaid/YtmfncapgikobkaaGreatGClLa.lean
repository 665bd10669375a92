/-
  cells, the reference: list.
  cells, the reference: what Last puts in, cell by cell.
-/
import Derived.Test.YtmfncapgikobkaaGreatGClRa
import Derived.Test.YtmfncapgikobkaaGreatGClPb
import Derived.Test.YtmfncapgikobkaaGreatGNdsQ
import Derived.Deep.RegionHeld3
import Derived.Test.YtmfncapgikobkaaGreatGClLe
import Derived.ArgAppend

namespace Go.Proofs.YtmfncapgikobkaaGreat
set_option maxRecDepth 100000
set_option linter.unusedVariables false
set_option linter.unusedSimpArgs false
open Go.RowKit Nds Num
def PXY (A : Option Addr) (xs : List Nat) (B : Option Addr) (ys : List Nat) : Nat → Prop := fun q => (0 < xs.length ∧ ∃ a, A = some a ∧ a.block = q) ∨ (0 < ys.length ∧ ∃ a, B = some a ∧ a.block = q)
def RetRl (P : Nat → Prop) (C : List Cl) (w : World) (e : Ending) (w' : World) : Prop :=
 ∃ v M, e = .returned v ∧ RlO w.heap.size P w' v M ∧ M.map Cv.cl = C ∧ Below w.heap.size w w'
set_option maxRecDepth 100000 in
set_option maxHeartbeats 3200000 in
theorem rlist_zero (A Ax Ay : Option Addr) (c n cx cy : Nat) (sx sy : Bool) (xs ys : List Nat) (P : Nat → Prop) (w : World) :
  Calls Tryz.prog 46 #[.slice A n c, .int .i64 0, .agg #[.bool sx, .slice Ax xs.length cx], .agg #[.bool sy, .slice Ay ys.length cy]] w (RetRl P [] w) := by
 have hb : Below w.heap.size w ((w.alloc (.cells #[.bool sx, .slice Ax xs.length cx] 42)).alloc (.cells #[.bool sy, .slice Ay ys.length cy] 42)) := ((Below.refl _ w).alloc (Nat.le_refl _) _).alloc (by simp) _
 have HB := Lib.hid hb
 clear hb
 go_enter Tryz.func46, Tryz.ntmps46
 go_wp2_with fail
 go_ret
 exact ⟨_, [], rfl, RlO.nil _ _ _, rfl, HB.out⟩
structure RlJ (w : World) (A : Option Addr) (c : Nat) (l : List Nd) (x : Nd) (m : Nat) (sx : Bool) (Ax : Option Addr) (cx : Nat) (xs : List Nat) (sy : Bool) (Ay : Option Addr) (cy : Nat) (ys : List Nat) (gh : Nat) (sh : Bool) (Ah : Option Addr) (ch : Nat) (hs : List Nat) (X Y : Int) (k : Nat) (v : Value) (M : List Cv) (W : World) : Prop where
 b : Below w.heap.size w W
 ns : Ns W A c l
 bx : HB_ W (gh + 1) w.heap.size sx Ax cx xs X
 by_ : HB_ W (gh + 1) (w.heap.size + 1) sy Ay cy ys Y
 bh : HB_ W (gh + 1) gh sh Ah ch hs (p2 m)
 lt : w.heap.size + 1 < gh
 o : RlO w.heap.size (PXY Ax xs Ay ys) W v M
 ob : ∀ q, v.ownBlock = some q → gh < q
 mm : M.map Cv.cl = listK l x m X Y k
section
variable {w : World} {A : Option Addr} {c : Nat} {l : List Nd} {x : Nd} {m : Nat} {sx : Bool} {Ax : Option Addr} {cx : Nat} {xs : List Nat} {sy : Bool} {Ay : Option Addr} {cy : Nat} {ys : List Nat} {gh : Nat} {sh : Bool} {Ah : Option Addr} {ch : Nat} {hs : List Nat} {X Y : Int} {k : Nat} {v : Value} {M : List Cv} {W W1 : World}
theorem RlJ.next (h : RlJ w A c l x m sx Ax cx xs sy Ay cy ys gh sh Ah ch hs X Y k v M W) (q : Below W.heap.size W W1) : RlJ w A c l x m sx Ax cx xs sy Ay cy ys gh sh Ah ch hs X Y k v M W1 := by
 have hg : gh + 1 ≤ W.heap.size := h.bh.x.lt
 exact ⟨h.b.trans (q.mono h.b.size), h.ns.below q, h.bx.keep (q.mono hg), h.by_.keep (q.mono hg), h.bh.keep (q.mono hg), h.lt, h.o.next q, h.ob, h.mm⟩
theorem RlJ.more {v2 : Value} {N : List Cv} (h : RlJ w A c l x m sx Ax cx xs sy Ay cy ys gh sh Ah ch hs X Y k v M W) (hA : ∀ a, A = some a → a.block < w.heap.size) (hN : ∀ u ∈ N, CvU W u ∧ CvR u ∧ (∀ q, v.ownBlock = some q → Off q u) ∧ Ori w.heap.size (PXY Ax xs Ay ys) u)
  (hf : OwnC W1 w.heap.size v2 (M ++ N)) (hg : W.grownBy W1 v.ownBlock) (hat : v2.ownBlock = v.ownBlock ∨ v2.ownBlock = some W.heap.size) (hm : N.map Cv.cl = listT (kidT (dens l) x.lv (x.kid k)) (X + offI (p2 m) k) (Y + offJ (p2 m) k)) :
  RlJ w A c l x m sx Ax cx xs sy Ay cy ys gh sh Ah ch hs X Y (k + 1) v2 (M ++ N) W1 := by
 have hlt := h.lt
 have hgl : gh < W.heap.size := h.bh.x.lt
 have hk : Below (gh + 1) W W1 := (Below.refl (gh + 1) W).grown hg (by omega) (fun q e => by have := h.ob q e; omega)
 have hbw : Below w.heap.size w W1 := h.b.grown hg h.b.size (fun q e => by have := h.ob q e; omega)
 refine ⟨hbw, h.ns.belowB (B := w.heap.size) hA (hk.mono (by omega)), h.bx.keep hk, h.by_.keep hk, h.bh.keep hk, h.lt, h.o.more hN hf hg hat, fun q hq => ?_, ?_⟩
 ·
  rcases hat with e | e
  ·
   exact h.ob q (e.symm.trans hq)
  ·
   have := Option.some.inj (e.symm.trans hq)
   omega
 ·
  rw [List.map_append, h.mm, hm]
  rfl
end
structure RlB (P : Nat → Prop) (B : Nat) (wr : World) (ga gb : Nat) (sa : Bool) (Aa : Option Addr) (ca : Nat) (us : List Nat) (zx : Int) (sb : Bool) (Ab : Option Addr) (cb : Nat) (vs : List Nat) (zy : Int) (wx : World) : Prop where
 b : Below wr.heap.size wr wx
 a : HX wx ga sa Aa ca us zx
 d : HX wx gb sb Ab cb vs zy
 gea : wr.heap.size ≤ ga
 geb : wr.heap.size ≤ gb
 ne : ga ≠ gb
 la : 0 < us.length → ∀ a, Aa = some a → wr.heap.size ≤ a.block ∨ (P a.block ∧ a.block < B)
 lb : 0 < vs.length → ∀ a, Ab = some a → wr.heap.size ≤ a.block ∨ (P a.block ∧ a.block < B)
section
variable {P : Nat → Prop} {B : Nat} {wr : World} {ga gb : Nat} {sa : Bool} {Aa : Option Addr} {ca : Nat} {us : List Nat} {zx : Int} {sb : Bool} {Ab : Option Addr} {cb : Nat} {vs : List Nat} {zy : Int} {wx W1 : World}
theorem RlB.next (h : RlB P B wr ga gb sa Aa ca us zx sb Ab cb vs zy wx) (q : Below wx.heap.size wx W1) : RlB P B wr ga gb sa Aa ca us zx sb Ab cb vs zy W1 :=
 ⟨h.b.trans (q.mono h.b.size), h.a.next q, h.d.next q, h.gea, h.geb, h.ne, h.la, h.lb⟩
theorem hx_far {g g2 : Nat} {s : Bool} {A : Option Addr} {c : Nat} {xs : List Nat} {n : Int} {s0 : Bool} {A0 : Option Addr} {n0 c0 : Nat} (h : HX wx g s A c xs n) (hne : g ≠ g2) (h2 : wx.heap[g2]? = some (.cells #[.bool s0, .slice A0 n0 c0] 42)) (x y : Value) : HX ((wx.setCell ⟨g2, 0, none⟩ x).setCell ⟨g2, 1, none⟩ y) g s A c xs n := by
 have hg := gb_two (setC_one wx g2 0 x) (setC_one _ g2 1 y)
 exact ⟨(hg.block g h.lt (fun e => hne (Option.some.inj e))).trans h.box, us_kept h.us (fun q h1 h3 => hg.block q h1 (fun e => h3 (by cases e; rfl))) hg.size (us_off h.us (bool_cell h2)), h.cn, h.v, h.off⟩
theorem RlB.setA (h : RlB P B wr ga gb sa Aa ca us zx sb Ab cb vs zy wx) {s2 : Bool} {A2 : Option Addr} {c2 : Nat} {xs2 : List Nat} {z2 : Int} (hu : Us wx A2 c2 xs2) (hc : CanonI s2 xs2) (hv : ival s2 xs2 = z2) (hf : FrU wr.heap.size A2) :
  RlB P B wr ga gb s2 A2 c2 xs2 z2 sb Ab cb vs zy ((wx.setCell ⟨ga, 0, none⟩ (.bool s2)).setCell ⟨ga, 1, none⟩ (.slice A2 xs2.length c2)) :=
 ⟨(h.b.setCell (p := ⟨ga, 0, none⟩) h.gea _).setCell (p := ⟨ga, 1, none⟩) h.gea _, h.a.set hu hc hv, hx_far h.d h.ne.symm h.a.box _ _, h.gea, h.geb, h.ne, fun _ a ea => .inl (hf a ea), h.lb⟩
theorem RlB.setB (h : RlB P B wr ga gb sa Aa ca us zx sb Ab cb vs zy wx) {s2 : Bool} {A2 : Option Addr} {c2 : Nat} {xs2 : List Nat} {z2 : Int} (hu : Us wx A2 c2 xs2) (hc : CanonI s2 xs2) (hv : ival s2 xs2 = z2) (hf : FrU wr.heap.size A2) :
  RlB P B wr ga gb sa Aa ca us zx s2 A2 c2 xs2 z2 ((wx.setCell ⟨gb, 0, none⟩ (.bool s2)).setCell ⟨gb, 1, none⟩ (.slice A2 xs2.length c2)) :=
 ⟨(h.b.setCell (p := ⟨gb, 0, none⟩) h.geb _).setCell (p := ⟨gb, 1, none⟩) h.geb _, hx_far h.a h.ne h.d.box _ _, h.d.set hu hc hv, h.gea, h.geb, h.ne, h.la, fun _ a ea => .inl (hf a ea)⟩
end
theorem RlB.ori {P : Nat → Prop} {B : Nat} {wr : World} {ga gb : Nat} {sa : Bool} {Aa : Option Addr} {ca : Nat} {us : List Nat} {zx : Int} {sb : Bool} {Ab : Option Addr} {cb : Nat} {vs : List Nat} {zy : Int} {wx : World} (h : RlB P B wr ga gb sa Aa ca us zx sb Ab cb vs zy wx) {base2 : Nat} (hb2 : wr.heap.size ≤ base2) {u : Cv} {v : Value} (ho : Ori base2 (PXY Aa us Ab vs) u)
  (hv : ∀ q, v.ownBlock = some q → B ≤ q ∧ q < wr.heap.size) (hw : B ≤ wr.heap.size) : (∀ q, v.ownBlock = some q → Off q u) ∧ Ori B P u := by
 have key : ∀ q, base2 ≤ q ∨ PXY Aa us Ab vs q → wr.heap.size ≤ q ∨ (P q ∧ q < B) := fun q hq => by
  rcases hq with h1 | ⟨h0, a, ea, rfl⟩ | ⟨h0, a, ea, rfl⟩
  ·
   exact .inl (by omega)
  ·
   exact h.la h0 a ea
  ·
   exact h.lb h0 a ea
 have far : ∀ q g, (wr.heap.size ≤ q ∨ (P q ∧ q < B)) → v.ownBlock = some g → q ≠ g := fun q g hq hg e => by
  have := hv g hg
  rcases hq with h1 | ⟨_, h1⟩ <;> omega
 have new : ∀ q, (wr.heap.size ≤ q ∨ (P q ∧ q < B)) → B ≤ q ∨ P q := fun q hq => by
  rcases hq with h1 | ⟨h1, _⟩
  ·
   exact .inl (by omega)
  ·
   exact .inr h1
 exact ⟨fun g hg => ⟨fun h0 a ea => far _ _ (key _ (ho.1 h0 a ea)) hg, fun h0 a ea => far _ _ (key _ (ho.2 h0 a ea)) hg⟩, fun h0 a ea => new _ (key _ (ho.1 h0 a ea)), fun h0 a ea => new _ (key _ (ho.2 h0 a ea))⟩
theorem boxes_made (wr : World) {sx : Bool} {Ax : Option Addr} {cx : Nat} {xs : List Nat} {X : Int} {sy : Bool} {Ay : Option Addr} {cy : Nat} {ys : List Nat} {Y : Int} {P : Nat → Prop} {B gx gy : Nat} (hX : HX wr gx sx Ax cx xs X) (hY : HX wr gy sy Ay cy ys Y)
  (lx : 0 < xs.length → ∀ a, Ax = some a → P a.block ∧ a.block < B) (ly : 0 < ys.length → ∀ a, Ay = some a → P a.block ∧ a.block < B) :
  RlB P B wr wr.heap.size (wr.heap.size + 1) sx Ax cx xs X sy Ay cy ys Y (((wr.alloc (.cells #[.bool sx, .slice Ax xs.length cx] 42)).alloc (.cells #[.bool sy, .slice Ay ys.length cy] 42)).drew) ∧
  RlB P B wr (wr.heap.size + 1) wr.heap.size sx Ax cx xs X sy Ay cy ys Y (((wr.alloc (.cells #[.bool sy, .slice Ay ys.length cy] 42)).alloc (.cells #[.bool sx, .slice Ax xs.length cx] 42)).drew) := by
 have key : ∀ (s : Bool) (A : Option Addr) (c : Nat) (zs : List Nat) (t : Bool) (D : Option Addr) (d : Nat) (us : List Nat) (z u : Int), Us wr A c zs → CanonI s zs → ival s zs = z → Us wr D d us → CanonI t us → ival t us = u →
   Below wr.heap.size wr (((wr.alloc (.cells #[.bool s, .slice A zs.length c] 42)).alloc (.cells #[.bool t, .slice D us.length d] 42)).drew) ∧
   HX (((wr.alloc (.cells #[.bool s, .slice A zs.length c] 42)).alloc (.cells #[.bool t, .slice D us.length d] 42)).drew) wr.heap.size s A c zs z ∧
   HX (((wr.alloc (.cells #[.bool s, .slice A zs.length c] 42)).alloc (.cells #[.bool t, .slice D us.length d] 42)).drew) (wr.heap.size + 1) t D d us u := by
  intro s A c zs t D d us z u h1 h2 h3 k1 k2 k3
  have hb : Below wr.heap.size wr (((wr.alloc (.cells #[.bool s, .slice A zs.length c] 42)).alloc (.cells #[.bool t, .slice D us.length d] 42)).drew) := below_drewN (((Below.refl _ wr).alloc (Nat.le_refl _) _).alloc (by simp) _) 1
  refine ⟨hb, ⟨?_, h1.below hb, h2, h3, fun h0 a ea => by have := us_lt h1 h0 a ea; omega⟩, ⟨?_, k1.below hb, k2, k3, fun h0 a ea => by have := us_lt k1 h0 a ea; omega⟩⟩
  ·
   exact (Below.heap_alloc _ _ _ (by simp)).trans (heap_alloc_new wr _)
  ·
   have h := heap_alloc_new (wr.alloc (.cells #[.bool s, .slice A zs.length c] 42)) (.cells #[.bool t, .slice D us.length d] 42)
   rw [show (wr.alloc (.cells #[.bool s, .slice A zs.length c] 42)).heap.size = wr.heap.size + 1 by simp] at h
   exact h
 obtain ⟨b1, x1, y1⟩ := key sx Ax cx xs sy Ay cy ys X Y hX.us hX.cn hX.v hY.us hY.cn hY.v
 obtain ⟨b2, y2, x2⟩ := key sy Ay cy ys sx Ax cx xs Y X hY.us hY.cn hY.v hX.us hX.cn hX.v
 exact ⟨⟨b1, x1, y1, Nat.le_refl _, Nat.le_succ _, by omega, fun h0 a ea => .inr (lx h0 a ea), fun h0 a ea => .inr (ly h0 a ea)⟩, ⟨b2, x2, y2, Nat.le_succ _, Nat.le_refl _, by omega, fun h0 a ea => .inr (lx h0 a ea), fun h0 a ea => .inr (ly h0 a ea)⟩⟩
theorem off_cases (h : Int) {k : Nat} (hk : k < 4) : (offI h k = 0 ∨ offI h k = h) ∧ (offJ h k = 0 ∨ offJ h k = h) := by
 obtain rfl | rfl | rfl | rfl : k = 0 ∨ k = 1 ∨ k = 2 ∨ k = 3 := by omega
 ·
  exact ⟨.inl rfl, .inl rfl⟩
 ·
  exact ⟨.inr rfl, .inl rfl⟩
 ·
  exact ⟨.inl rfl, .inr rfl⟩
 ·
  exact ⟨.inr rfl, .inr rfl⟩
theorem quarter_at {X Y : Int} {m k : Nat} (h : -p2 1329 ≤ X ∧ X + p2 (m + 1) ≤ p2 1329 ∧ -p2 1329 ≤ Y ∧ Y + p2 (m + 1) ≤ p2 1329) (hk : k < 4) : -p2 1329 ≤ X + offI (p2 m) k ∧ X + offI (p2 m) k + p2 m ≤ p2 1329 ∧ -p2 1329 ≤ Y + offJ (p2 m) k ∧ Y + offJ (p2 m) k + p2 m ≤ p2 1329 := by
 obtain ⟨h1, h2⟩ := off_cases (p2 m) hk
 have h3 := p2_succ m
 have h4 := p2_pos m
 omega
theorem lens_at {X Y : Int} {m k : Nat} (h : -p2 1329 ≤ X ∧ X + p2 (m + 1) ≤ p2 1329 ∧ -p2 1329 ≤ Y ∧ Y + p2 (m + 1) ≤ p2 1329) (hk : k < 4) : -p2 1330 ≤ X + offI (p2 m) k ∧ X + offI (p2 m) k ≤ p2 1330 ∧ -p2 1330 ≤ Y + offJ (p2 m) k ∧ Y + offJ (p2 m) k ≤ p2 1330 := by
 have h1 := quarter_at h hk
 have h2 := p2_pos m
 have h3 : p2 1330 = p2 1329 + p2 1329 := p2_succ 1329
 have h4 := p2_pos 1329
 omega
theorem off_none {k : Nat} {h : Int} (e : false = ((k : Int) % 2 == 1)) (hk : k < 4) : offI h k = 0 := by
 obtain rfl | rfl | rfl | rfl : k = 0 ∨ k = 1 ∨ k = 2 ∨ k = 3 := by omega
 ·
  rfl
 ·
  cases e
 ·
  rfl
 ·
  cases e
theorem off_some {k : Nat} {h : Int} (e : true = ((k : Int) % 2 == 1)) (hk : k < 4) : offI h k = h := by
 obtain rfl | rfl | rfl | rfl : k = 0 ∨ k = 1 ∨ k = 2 ∨ k = 3 := by omega
 ·
  cases e
 ·
  rfl
 ·
  cases e
 ·
  rfl
theorem offj_none {k : Nat} {h : Int} (e : false = decide ((k : Int) > 1)) (hk : k < 4) : offJ h k = 0 := by
 obtain rfl | rfl | rfl | rfl : k = 0 ∨ k = 1 ∨ k = 2 ∨ k = 3 := by omega
 ·
  rfl
 ·
  rfl
 ·
  cases e
 ·
  cases e
theorem offj_some {k : Nat} {h : Int} (e : true = decide ((k : Int) > 1)) (hk : k < 4) : offJ h k = h := by
 obtain rfl | rfl | rfl | rfl : k = 0 ∨ k = 1 ∨ k = 2 ∨ k = 3 := by omega
 ·
  cases e
 ·
  cases e
 ·
  rfl
 ·
  rfl
set_option maxRecDepth 100000 in
set_option maxHeartbeats 3200000 in
theorem rlist_rec (A : Option Addr) (c n : Nat) (l : List Nd) (hl : looseB l = true) (hn : l.length = n) (hn9 : n ≤ 900000) : ∀ (m p : Nat) (sx : Bool) (Ax : Option Addr) (cx : Nat) (xs : List Nat) (sy : Bool) (Ay : Option Addr) (cy : Nat) (ys : List Nat) (X Y : Int) (w : World), m ≤ 1328 → p < n → (at_ l p).lv = (m : Int) + 1 → Ns w A c l →
  Us w Ax cx xs → Us w Ay cy ys → CanonI sx xs → CanonI sy ys → ival sx xs = X → ival sy ys = Y → -p2 1329 ≤ X → X + p2 (m + 1) ≤ p2 1329 → -p2 1329 ≤ Y → Y + p2 (m + 1) ≤ p2 1329 → countT (den l (p + 1)) ≤ 900000 →
  Calls Tryz.prog 46 #[.slice A n c, .int .i64 ((p : Int) + 1), .agg #[.bool sx, .slice Ax xs.length cx], .agg #[.bool sy, .slice Ay ys.length cy]] w (RetRl (PXY Ax xs Ay ys) (listT (den l (p + 1)) X Y) w) := by
 intro m
 induction m using Nat.strongRecOn with
 | _ m ih =>
  intro p sx Ax cx xs sy Ay cy ys X Y w hm hp hlv hN hux huy hkx hky hvx hvy hX1 hX2 hY1 hY2 hcnt
  have hcapx := hux.cap
  have hcapy := huy.cap
  have hcap := hN.cap
  rw [hn] at hcap
  obtain ⟨b, off, rfl, hb0, hcl0⟩ := hN.at_ (by omega)
  obtain ⟨x, hx⟩ : ∃ x, x = at_ l p := ⟨_, rfl⟩
  obtain ⟨W, hW⟩ : ∃ W : World, W = (w.alloc (.cells #[.bool sx, .slice Ax xs.length cx] 42)).alloc (.cells #[.bool sy, .slice Ay ys.length cy] 42) := ⟨_, rfl⟩
  have hb : Below w.heap.size w W := by rw [hW]; exact ((Below.refl _ w).alloc (Nat.le_refl _) _).alloc (by simp) _
  have hsz : W.heap.size = w.heap.size + 1 + 1 := by rw [hW]; simp
  have hbx : HX W w.heap.size sx Ax cx xs X := ⟨by rw [hW]; exact (Below.heap_alloc _ _ _ (by simp)).trans (heap_alloc_new w _), hux.below hb, hkx, hvx, fun h0 a ea => by have := us_lt hux h0 a ea; omega⟩
  have hby : HX W (w.heap.size + 1) sy Ay cy ys Y := ⟨by
   have h := heap_alloc_new (w.alloc (.cells #[.bool sx, .slice Ax xs.length cx] 42)) (.cells #[.bool sy, .slice Ay ys.length cy] 42)
   rw [show (w.alloc (.cells #[.bool sx, .slice Ax xs.length cx] 42)).heap.size = w.heap.size + 1 by simp] at h
   rw [hW]; exact h, huy.below hb, hky, hvy, fun h0 a ea => by have := us_lt huy h0 a ea; omega⟩
  obtain ⟨c1_, -, -, -, -⟩ := (hcl0 p (by omega)).below (hb.block b hb0)
  rw [← hx] at c1_ hlv
  rw [hlv] at c1_
  have j1 : (0 : Int) ≤ (p : Int) := by omega
  have j2 : (p : Int) < (n : Int) := by omega
  have j3 : ((p : Int) + 1 == 0) = false := beq_eq_false_iff_ne.2 (by omega)
  have HB := Lib.hid hb
  have HBX := Lib.hid hbx
  have HBY := Lib.hid hby
  have HSZ := Lib.hid hsz
  have HW := Lib.hid hW
  have HN := Lib.hid (hN.below hb)
  have HUX := Lib.hid hux
  have HUY := Lib.hid huy
  have HL := Lib.hid hn
  have HLL := Lib.hid hl
  have HX_ := Lib.hid hx
  have HLV := Lib.hid hlv
  have IH := Lib.hid ih
  have HCN := Lib.hid hcnt
  have HBO := Lib.hid hb0
  have hp1 := p2_pos (m + 1)
  have hp2 := p2_pos 1329
  have hp3 : p2 1330 = p2 1329 + p2 1329 := p2_succ 1329
  have HXB := Lib.hid (And.intro (show -p2 1330 ≤ X by omega) (show X ≤ p2 1330 by omega))
  have HYB := Lib.hid (And.intro (show -p2 1330 ≤ Y by omega) (show Y ≤ p2 1330 by omega))
  have HPB := Lib.hid (And.intro hX1 (And.intro hX2 (And.intro hY1 hY2)))
  clear hp1 hp2 hp3 hX1 hX2 hY1 hY2
  rw [hW] at c1_
  clear hN hcl0 hx hlv hb hsz hbx hby hW hux huy hkx hky hvx hvy hn hl ih hcnt
  go_enter Tryz.func46, Tryz.ntmps46
  go_wp2_with (go_at_call 32; go_loud (rw [← HW.out]; refine (rbpow_any _ _).mono ?_; rintro e w5 ⟨A5, c5, s5, r5, rfl, u5, k5, v5, b5⟩; rw [pow_p2 m (by omega)] at v5; have U5 := Lib.hid u5; have K5 := Lib.hid k5; have V5 := Lib.hid v5; have B5 := Lib.hid b5; clear u5 k5 v5 b5))
  obtain ⟨gh, hgh⟩ : ∃ g, g = w5.heap.size := ⟨_, rfl⟩
  have hg5 := heap_alloc_new w5 (.cells #[.bool s5, .slice A5 r5.length c5] 42)
  have bl5 := (Below.refl w5.heap.size w5).alloc (Nat.le_refl _) (.cells #[.bool s5, .slice A5 r5.length c5] 42)
  rw [← hgh] at hg5 ⊢
  have hs5 := B5.out.size
  have hsz5 := HSZ.out
  have S0 := Lib.hid (show RlJ w (some ⟨b, off, none⟩) c l x m sx Ax cx xs sy Ay cy ys gh s5 A5 c5 r5 X Y 0 (.slice none 0 0) [] (w5.alloc (.cells #[.bool s5, .slice A5 r5.length c5] 42)) from
   ⟨HB.out.trans ((B5.out.trans (bl5.mono B5.out.size)).mono HB.out.size), (HN.out.below B5.out).below bl5, ⟨(HBX.out.next B5.out).next bl5, by omega, fun h0 a ea => by have := us_lt HUX.out h0 a ea; omega⟩, ⟨(HBY.out.next B5.out).next bl5, by omega, fun h0 a ea => by have := us_lt HUY.out h0 a ea; omega⟩,
    ⟨⟨hg5, U5.out.below bl5, K5.out, V5.out, fun h0 a ea => by have := us_lt U5.out h0 a ea; omega⟩, by omega, fun h0 a ea => by have := us_lt U5.out h0 a ea; omega⟩, by omega, RlO.nil _ _ _, (fun q hq => by cases hq), rfl⟩)
  clear hg5 bl5 hgh hs5 hsz5 c1_
  go_loopw [11, 10] (fun z z10 wr => ∃ (k : Nat) (v : Value) (M : List Cv), k ≤ 4 ∧ z = .int .i64 k ∧ v = z10 ∧ RlJ w (some ⟨b, off, none⟩) c l x m sx Ax cx xs sy Ay cy ys gh s5 A5 c5 r5 X Y k v M wr) (fun z _ _ => 4 - (intOf z).toNat)
  case atStart => exact ⟨0, _, [], by omega, rfl, rfl, S0.out⟩
  case round =>
   obtain ⟨k, v, M, hk, rfl, rfl, R⟩ := hrel
   have RR := Lib.hid R
   by_cases hlt : k < 4
   ·
    have j0 : (0 : Int) ≤ (k : Int) := by omega
    have j00 : (k : Int) < 4 := by omega
    have t1 : decide ((k : Int) < 4) = true := decide_eq_true j00
    have q1 := R.bx.x.c0
    have q2 := R.bx.x.c1
    have q3 := R.by_.x.c0
    have q4 := R.by_.x.c1
    clear R
    have n1 := World.new_ne wr _ q1
    have n2 := World.new_ne wr _ q2
    have n3 := World.new_ne wr _ q3
    have n4 := World.new_ne wr _ q4
    go_wp2_with fail
    go_cut [12, 13] from 29 to 30 (fun s12 s13 wx => ∃ ga gb, s12 = .pointer (some ⟨ga, 0, none⟩) ∧ s13 = .pointer (some ⟨gb, 0, none⟩) ∧ RlB (PXY Ax xs Ay ys) w.heap.size wr ga gb sx Ax cx xs X sy Ay cy ys Y wx)
    case first =>
     go_region_held3 (fun w' => w'.cell? ⟨w.heap.size, 0, none⟩ = some (.bool sx) ∧ w'.cell? ⟨w.heap.size, 1, none⟩ = some (.slice Ax xs.length cx) ∧ w'.cell? ⟨w.heap.size + 1, 0, none⟩ = some (.bool sy) ∧ w'.cell? ⟨w.heap.size + 1, 1, none⟩ = some (.slice Ay ys.length cy))
      (first | go_keep | fail)
      (first | fail)
     all_goals
      go_wp2_with fail
      go_meet
      have hmk := boxes_made wr RR.out.bx.x RR.out.by_.x (P := PXY Ax xs Ay ys) (B := w.heap.size) (fun h0 a ea => ⟨.inl ⟨h0, a, ea, rfl⟩, us_lt HUX.out h0 a ea⟩) (fun h0 a ea => ⟨.inr ⟨h0, a, ea, rfl⟩, us_lt HUY.out h0 a ea⟩)
      first
       | exact ⟨_, _, rfl, rfl, hmk.1⟩
       | exact ⟨_, _, rfl, rfl, hmk.2⟩
    case rest =>
     obtain ⟨ga, gb, rfl, rfl, hB⟩ := hcut
     have HB0 := Lib.hid hB
     obtain ⟨bX, hbX⟩ : ∃ b, b = ((k : Int) % 2 == 1) := ⟨_, rfl⟩
     obtain ⟨bY, hbY⟩ : ∃ b, b = decide ((k : Int) > 1) := ⟨_, rfl⟩
     have tX := hbX.symm
     have tY := hbY.symm
     have HBX_ := Lib.hid hbX
     have HBY_ := Lib.hid hbY
     have RJ := Lib.hid (RR.out.next (hB.b))
     clear hbX hbY hB
     go_upto_if 33 with (fail)
     go_cut [] from 34 to 36 (fun wx => ∃ sa Aa ca us, RlB (PXY Ax xs Ay ys) w.heap.size wr ga gb sa Aa ca us (X + offI (p2 m) k) sy Ay cy ys Y wx ∧ CanonI sa us)
     case first =>
      cases bX with
      | false =>
       go_wp2_with fail
       go_meet
       exact ⟨sx, Ax, cx, xs, by rw [off_none HBX_.out hlt, Int.add_zero]; exact HB0.out, RJ.out.bx.x.cn⟩
      | true =>
       have q1 := RJ.out.bx.x.c0
       have q2 := RJ.out.bx.x.c1
       have q3 := RJ.out.bh.x.c0
       have q4 := RJ.out.bh.x.c1
       have hcp := RJ.out.bh.x.us.cap
       have hl1 := len_near RJ.out.bx.x.cn RJ.out.bx.x.v HXB.out.1 HXB.out.2
       have hl2 := len_p2 RJ.out.bh.x.cn RJ.out.bh.x.v (by omega)
       go_wp2_with (go_at_call 65; go_loud (refine (rbadd_F sx s5 _ _ _ _ xs r5 _ RJ.out.bx.x.us RJ.out.bh.x.us (by omega) (by omega)).mono ?_; rintro e w6 ⟨A6, c6, s6, r6, rfl, u6, k6, v6, b6, f6⟩; rw [RJ.out.bx.x.v, RJ.out.bh.x.v] at v6; have HB6 := Lib.hid (HB0.out.next b6); have U6 := Lib.hid u6; have K6 := Lib.hid k6; have V6 := Lib.hid v6; have F6 := Lib.hid (show FrU wr.heap.size A6 from fun a ea => Nat.le_trans HB0.out.b.size (f6 a ea)); have y1 := HB6.out.a.c0; have y2 := HB6.out.a.c1; have y3 := HB6.out.a.free 0; have y4 := HB6.out.a.free 1; clear u6 k6 v6 b6 f6))
       go_meet
       exact ⟨s6, A6, c6, r6, HB6.out.setA U6.out K6.out (by rw [V6.out, off_some HBX_.out hlt]) F6.out, K6.out⟩
     case rest =>
      obtain ⟨sa, Aa, ca, us, hB, hka⟩ := hcut
      have HB1 := Lib.hid hB
      have HKA := Lib.hid hka
      have RJ1 := Lib.hid (RR.out.next hB.b)
      clear hB hka tX
      go_upto_if 38 with (fail)
      go_cut [] from 39 to 41 (fun wx => ∃ sb Ab cb vs, RlB (PXY Ax xs Ay ys) w.heap.size wr ga gb sa Aa ca us (X + offI (p2 m) k) sb Ab cb vs (Y + offJ (p2 m) k) wx ∧ CanonI sb vs)
      case first =>
       cases bY with
       | false =>
        go_wp2_with fail
        go_meet
        exact ⟨sy, Ay, cy, ys, by rw [offj_none HBY_.out hlt, Int.add_zero]; exact HB1.out, RJ1.out.by_.x.cn⟩
       | true =>
        have q1 := RJ1.out.by_.x.c0
        have q2 := RJ1.out.by_.x.c1
        have q3 := RJ1.out.bh.x.c0
        have q4 := RJ1.out.bh.x.c1
        have hcp := RJ1.out.bh.x.us.cap
        have hl1 := len_near RJ1.out.by_.x.cn RJ1.out.by_.x.v HYB.out.1 HYB.out.2
        have hl2 := len_p2 RJ1.out.bh.x.cn RJ1.out.bh.x.v (by omega)
        go_wp2_with (go_at_call 65; go_loud (refine (rbadd_F sy s5 _ _ _ _ ys r5 _ RJ1.out.by_.x.us RJ1.out.bh.x.us (by omega) (by omega)).mono ?_; rintro e w6 ⟨A6, c6, s6, r6, rfl, u6, k6, v6, b6, f6⟩; rw [RJ1.out.by_.x.v, RJ1.out.bh.x.v] at v6; have HB6 := Lib.hid (HB1.out.next b6); have U6 := Lib.hid u6; have K6 := Lib.hid k6; have V6 := Lib.hid v6; have F6 := Lib.hid (show FrU wr.heap.size A6 from fun a ea => Nat.le_trans HB1.out.b.size (f6 a ea)); have y1 := HB6.out.d.c0; have y2 := HB6.out.d.c1; have y3 := HB6.out.d.free 0; have y4 := HB6.out.d.free 1; clear u6 k6 v6 b6 f6))
        go_meet
        exact ⟨s6, A6, c6, r6, HB6.out.setB U6.out K6.out (by rw [V6.out, offj_some HBY_.out hlt]) F6.out, K6.out⟩
      case rest =>
       obtain ⟨sb, Ab, cb, vs, hB, hkb⟩ := hcut
       have HB2 := Lib.hid hB
       have HKB := Lib.hid hkb
       have RJ2 := Lib.hid (RR.out.next hB.b)
       have q1 := hB.a.c0
       have q2 := hB.a.c1
       have q3 := hB.d.c0
       have q4 := hB.d.c1
       have hca := hB.a.us.cap
       have hcb := hB.d.us.cap
       obtain ⟨b', off', e', -, hcl⟩ := RJ2.out.ns.at_ (by rw [HL.out]; omega)
       cases e'
       have hnd := hcl p (by rw [HL.out]; exact hp)
       rw [← HX_.out] at hnd
       have hkid := hnd.kid hlt
       obtain ⟨c1_, -, -, -, -⟩ := hnd
       rw [HLV.out] at c1_
       have hfx := loose_fit HLL.out (i := p) (by rw [HL.out]; exact hp)
       rw [← HX_.out] at hfx
       have hfk := fit_kid hfx hlt
       obtain ⟨y, hy⟩ : ∃ y, y = x.kid k := ⟨_, rfl⟩
       rw [← hy] at hkid hfk
       have HY_ := Lib.hid hy
       have HFK := Lib.hid hfk
       have hcK : cntK l x (k + 1) ≤ countT (den l (p + 1)) := by
        have h2 := cntK_mono l x (4 - (k + 1)) (k + 1)
        rw [show k + 1 + (4 - (k + 1)) = 4 by omega] at h2
        rw [← cntK_den HLL.out (by rw [HL.out]; exact hp), ← HX_.out]
        exact h2
       have hML : M.length = cntK l x k := by
        have h1 := congrArg List.length RR.out.mm
        rw [List.length_map, listK_len] at h1
        exact h1
       have HCK := Lib.hid (show M.length + countT (kidT (dens l) x.lv (x.kid k)) ≤ 900000 by
        rw [hML]
        exact Nat.le_trans hcK HCN.out)
       have hvo : ∀ q, v.ownBlock = some q → w.heap.size ≤ q ∧ q < wr.heap.size := fun q hq => ⟨by have := RR.out.ob q hq; have := RR.out.lt; omega, (RR.out.o.o.lt q hq).2⟩
       have HVO := Lib.hid hvo
       have hA0 : ∀ a, (some ⟨b, off, none⟩ : Option Addr) = some a → a.block < w.heap.size := fun a e => by cases e; exact HBO.out
       have HA0 := Lib.hid hA0
       have hws : w.heap.size ≤ wc.heap.size := RJ2.out.b.size
       clear hB hkb tY hcl hfx hy hfk hcK hML hvo hA0
       rcases Nat.eq_zero_or_pos m with hm0 | hm0
       ·
        have t2 : decide ((m : Int) + 1 > 1) = false := decide_eq_false (by omega)
        have HM0 := Lib.hid hm0
        clear hm0
        by_cases hy0 : 0 < y
        ·
         have t3 : decide (y > 0) = true := decide_eq_true hy0
         obtain ⟨yn, rfl⟩ : ∃ q : Nat, y = (q : Int) := ⟨y.toNat, by omega⟩
         have hy255 : 1 ≤ yn ∧ yn ≤ 255 ∧ kidT (dens l) x.lv (x.kid k) = .s (yn : Int) := by
          have h1 := HFK.out
          rw [HLV.out, HM0.out, show ((0 : Nat) : Int) + 1 = 1 by omega, kidB_one, decide_eq_true_iff] at h1
          refine ⟨by omega, by omega, ?_⟩
          rw [← HY_.out, HLV.out, HM0.out, show ((0 : Nat) : Int) + 1 = 1 by omega]
          exact kid_leaf l (by omega)
         have y1 : (0 : Int) ≤ (yn : Int) := by omega
         have y2 : (yn : Int) ≤ 255 := by omega
         have t4 : decide (0 < yn) = true := decide_eq_true (by omega)
         have t5 : 0 < yn := by omega
         have HYN := Lib.hid hy255
         have hle := lens_at HPB.out hlt
         have hla : us.length ≤ 50 := len_near HKA.out HB2.out.a.v hle.1 hle.2.1
         have hlb : vs.length ≤ 50 := len_near HKB.out HB2.out.d.v hle.2.2.1 hle.2.2.2
         have hal : Below wc.heap.size wc (wc.alloc (.cells #[.bool sa, .slice Aa us.length ca, .bool sb, .slice Ab vs.length cb, .int .u8 (yn : Int)] 47)) := (Below.refl _ wc).alloc (Nat.le_refl _) _
         have HAL := Lib.hid hal
         have HCU := Lib.hid (show CvU (wc.alloc (.cells #[.bool sa, .slice Aa us.length ca, .bool sb, .slice Ab vs.length cb, .int .u8 (yn : Int)] 47)) ⟨sa, Aa, ca, us, sb, Ab, cb, vs, yn⟩ from ⟨HB2.out.a.us.below hal, HB2.out.d.us.below hal, hy255.2.1⟩)
         have HCR := Lib.hid (show CvR ⟨sa, Aa, ca, us, sb, Ab, cb, vs, yn⟩ from ⟨HKA.out, HKB.out, Nat.le_trans hla (by decide), Nat.le_trans hlb (by decide)⟩)
         have HOR := Lib.hid (HB2.out.ori (v := v) (Nat.le_refl _) (u := ⟨sa, Aa, ca, us, sb, Ab, cb, vs, yn⟩) ⟨fun h0 a ea => .inr (.inl ⟨h0, a, ea, rfl⟩), fun h0 a ea => .inr (.inr ⟨h0, a, ea, rfl⟩)⟩ HVO.out RR.out.b.size)
         have HMS := Lib.hid (show M.length + 1 ≤ 1000000 by
          have h1 := HCK.out
          omega)
         clear hy0 hy255 hle hla hlb hal
         go_wp2_with (at_builtin; go_loud (refine wpList_append_cell _ rfl _ _ rfl w.heap.size v M ⟨sa, Aa, ca, us, sb, Ab, cb, vs, yn⟩ _ 1 rfl rfl ((RJ2.out.next HAL.out).o.o) (cell_box wc ⟨sa, Aa, ca, us, sb, Ab, cb, vs, yn⟩) HMS.out (Nat.le_trans hws HAL.out.size) ?_; intro v9 w9 hown9 hg9 hat9; have HO9 := Lib.hid hown9; have HG9 := Lib.hid hg9; have HA9 := Lib.hid hat9; clear hown9 hg9 hat9))
         go_roundw
         case rel =>
          refine ⟨k + 1, v9, _, by omega, by go_num, rfl, (RJ2.out.next HAL.out).more HA0.out (fun u hu => ?_) HO9.out HG9.out HA9.out ?_⟩
          ·
           rw [List.mem_singleton.1 hu]
           exact ⟨HCU.out, HCR.out, HOR.out.1, HOR.out.2⟩
          ·
           rw [HYN.out.2.2]
           show [_] = [_]
           congr 1
           exact Cl.ext' HB2.out.a.v HB2.out.d.v rfl
         case measure => simp [intOf]; omega
        ·
         have t3 : decide (y > 0) = false := decide_eq_false hy0
         have HS := Lib.hid (show y = 0 by
          have h1 := HFK.out
          rw [HLV.out, HM0.out, show ((0 : Nat) : Int) + 1 = 1 by omega, kidB_one, decide_eq_true_iff] at h1
          omega)
         clear hy0
         go_wp2_with fail
         go_roundw
         case rel =>
          have hk0 : x.kid k = 0 := by rw [← HY_.out]; exact HS.out
          exact ⟨k + 1, v, M, by omega, by go_num, rfl, { RJ2.out with mm := by rw [listK_none _ _ _ _ _ hk0]; exact RJ2.out.mm }⟩
         case measure => simp [intOf]; omega
       ·
        have t2 : decide ((m : Int) + 1 > 1) = true := decide_eq_true (by omega)
        have HMP := Lib.hid hm0
        clear hm0
        rcases kid_up (by rw [HLV.out]; have := HMP.out; omega) HFK.out with hy0 | ⟨q, hyq, hql, hqv⟩
        ·
         subst hy0
         have HT := Lib.hid (show kidT (dens l) x.lv (x.kid k) = .e by rw [← HY_.out, kid_none])
         go_wp2_with (first
          | (go_at_call 46; go_loud (refine (rlist_zero _ Aa Ab c n ca cb sa sb us vs (PXY Aa us Ab vs) _).mono ?_; rintro e w8 ⟨v2, M2, rfl, o8, mm8, b8⟩; obtain ⟨A2, c2, hv2, hcs2, hna2, -⟩ := o8.o.cs (fun u hu => (o8.ok u hu).1); subst hv2; have hc8 := hcs2.cap; have CS8 := Lib.hid hcs2; have NA8 := Lib.hid hna2; have O8 := Lib.hid o8; have B8 := Lib.hid b8; have MM8 := Lib.hid (show M2.map Cv.cl = listT (kidT (dens l) x.lv (x.kid k)) (X + offI (p2 m) k) (Y + offJ (p2 m) k) from (by rw [mm8, HT.out]; rfl)); have MS8 := Lib.hid (show M.length + M2.length ≤ 1000000 from (by have h1 := HCK.out; have h2 := congrArg List.length mm8; rw [List.length_map] at h2; rw [HT.out] at h1; simp only [listT_len, List.length_nil, countT] at h1 h2; omega)); clear hcs2 hna2 o8 b8 mm8))
          | (at_builtin; go_loud (refine wpList_append_cs _ rfl _ _ rfl w.heap.size v M M2 A2 M2.length c2 rfl rfl ((RJ2.out.next B8.out).o.o) CS8.out rfl NA8.out MS8.out (Nat.le_trans hws B8.out.size) ?_; intro v9 w9 hown9 hg9 hat9; have HO9 := Lib.hid hown9; have HG9 := Lib.hid hg9; have HA9 := Lib.hid hat9; clear hown9 hg9 hat9)))
         go_roundw
         case rel =>
          refine ⟨k + 1, v9, _, by omega, by go_num, rfl, (RJ2.out.next B8.out).more HA0.out (fun u hu => ?_) HO9.out HG9.out HA9.out MM8.out⟩
          have h1 := O8.out.ok u hu
          have h2 := HB2.out.ori (v := v) (base2 := wc.heap.size) HB2.out.b.size h1.2.2.2 HVO.out RR.out.b.size
          exact ⟨h1.1, h1.2.1, h2.1, h2.2⟩
         case measure => simp [intOf]; omega
        ·
         subst hyq
         rw [HL.out] at hql
         have HT := Lib.hid (show kidT (dens l) x.lv (x.kid k) = den l (q + 1) by rw [← HY_.out, kid_den l (by rw [HLV.out]; have := HMP.out; omega)])
         obtain ⟨m', hm'⟩ : ∃ m', m' + 1 = m := ⟨m - 1, by have := HMP.out; omega⟩
         have HQL := Lib.hid hql
         have HM' := Lib.hid hm'
         have hb4 := quarter_at HPB.out hlt
         have HB4 := Lib.hid hb4
         have HCALL := Lib.hid (IH.out m' (by omega) q sa Aa ca us sb Ab cb vs _ _ wc (by omega) hql (by rw [hqv, HLV.out]; omega) RJ2.out.ns HB2.out.a.us HB2.out.d.us HKA.out HKB.out HB2.out.a.v HB2.out.d.v hb4.1 (by rw [hm']; exact hb4.2.1) hb4.2.2.1 (by rw [hm']; exact hb4.2.2.2) (by have h1 := HCK.out; rw [HT.out] at h1; omega))
         clear hql hqv hm' hb4
         go_wp2_with (first
          | (go_at_call 46; go_loud (refine HCALL.out.mono ?_; rintro e w8 ⟨v2, M2, rfl, o8, mm8, b8⟩; obtain ⟨A2, c2, hv2, hcs2, hna2, -⟩ := o8.o.cs (fun u hu => (o8.ok u hu).1); subst hv2; have hc8 := hcs2.cap; have CS8 := Lib.hid hcs2; have NA8 := Lib.hid hna2; have O8 := Lib.hid o8; have B8 := Lib.hid b8; have MM8 := Lib.hid (show M2.map Cv.cl = listT (kidT (dens l) x.lv (x.kid k)) (X + offI (p2 m) k) (Y + offJ (p2 m) k) from (by rw [mm8, HT.out])); have MS8 := Lib.hid (show M.length + M2.length ≤ 1000000 from (by have h1 := HCK.out; have h2 := congrArg List.length mm8; rw [List.length_map] at h2; rw [HT.out] at h1; simp only [listT_len, List.length_nil, countT] at h1 h2; omega)); clear hcs2 hna2 o8 b8 mm8))
          | (at_builtin; go_loud (refine wpList_append_cs _ rfl _ _ rfl w.heap.size v M M2 A2 M2.length c2 rfl rfl ((RJ2.out.next B8.out).o.o) CS8.out rfl NA8.out MS8.out (Nat.le_trans hws B8.out.size) ?_; intro v9 w9 hown9 hg9 hat9; have HO9 := Lib.hid hown9; have HG9 := Lib.hid hg9; have HA9 := Lib.hid hat9; clear hown9 hg9 hat9)))
         go_roundw
         case rel =>
          refine ⟨k + 1, v9, _, by omega, by go_num, rfl, (RJ2.out.next B8.out).more HA0.out (fun u hu => ?_) HO9.out HG9.out HA9.out MM8.out⟩
          have h1 := O8.out.ok u hu
          have h2 := HB2.out.ori (v := v) (base2 := wc.heap.size) HB2.out.b.size h1.2.2.2 HVO.out RR.out.b.size
          exact ⟨h1.1, h1.2.1, h2.1, h2.2⟩
         case measure => simp [intOf]; omega
   ·
    obtain rfl : k = 4 := by omega
    have t1 : decide ((4 : Int) < 4) = false := rfl
    clear R
    go_wp2_with fail
    go_ret
    exact ⟨v, M, rfl, RR.out.o, by rw [RR.out.mm, listK_four _ _ _ _ _ HLV.out, HX_.out, ← den_loose HLL.out (by rw [HL.out]; exact hp)], RR.out.b⟩
end Go.Proofs.YtmfncapgikobkaaGreat

namespace Go.Proofs.YtmfncapgikobkaaGreat
set_option maxRecDepth 100000
set_option linter.unusedVariables false
set_option linter.unusedSimpArgs false
open Go.RowKit Nds Num
theorem ordC_lt {v u : Cv} : ordC v u < 0 ↔ ltB v.cl u.cl = true := by
 rw [ltB_iff]
 unfold ordC ltC Cv.cl
 dsimp only
 split
 ·
  rename_i h
  rw [ordI_zero] at h
  rw [ordI_neg]
  omega
 ·
  rename_i h
  rw [ordI_zero] at h
  rw [ordI_neg]
  omega
theorem ordC_eq {v u : Cv} : ordC v u = 0 ↔ (v.cl.x = u.cl.x ∧ v.cl.y = u.cl.y) := by
 unfold ordC Cv.cl
 dsimp only
 split
 ·
  rename_i h
  rw [ordI_zero] at h
  rw [ordI_zero]
  exact ⟨fun e => ⟨e, h⟩, fun e => e.1⟩
 ·
  rename_i h
  rw [ordI_zero] at h ⊢
  exact ⟨fun e => absurd e h, fun e => absurd e.2 h⟩
def insV : List Cv → Cv → List Cv
 | [], c => [c]
 | a :: l, c => if ordC a c < 0 then a :: insV l c else if ordC a c = 0 then c :: l else c :: a :: l
theorem insV_cl : ∀ (l : List Cv) (c : Cv), (insV l c).map Cv.cl = insC (l.map Cv.cl) c.cl
 | [], c => rfl
 | a :: l, c => by
  rw [List.map_cons]
  unfold insV insC
  by_cases h1 : ordC a c < 0
  ·
   rw [if_pos h1, if_pos (ordC_lt.1 h1), List.map_cons, insV_cl l c]
  ·
   rw [if_neg h1, if_neg (fun e => h1 (ordC_lt.2 e))]
   by_cases h2 : ordC a c = 0
   ·
    rw [if_pos h2, if_pos (ordC_eq.1 h2)]
    rfl
   ·
    rw [if_neg h2, if_neg (fun e => h2 (ordC_eq.2 e))]
    rfl
theorem insV_mem : ∀ {l : List Cv} {c d : Cv}, d ∈ insV l c → d = c ∨ d ∈ l
 | [], c, d, h => .inl (List.mem_singleton.1 h)
 | a :: l, c, d, h => by
  unfold insV at h
  split at h
  ·
   rcases List.mem_cons.1 h with h | h
   ·
    exact .inr (by simp [h])
   ·
    rcases insV_mem h with h | h
    ·
     exact .inl h
    ·
     exact .inr (by simp [h])
  ·
   split at h
   ·
    rcases List.mem_cons.1 h with h | h
    ·
     exact .inl h
    ·
     exact .inr (by simp [h])
   ·
    rcases List.mem_cons.1 h with h | h
    ·
     exact .inl h
    ·
     exact .inr h
theorem insV_len : ∀ (l : List Cv) (c : Cv), (insV l c).length ≤ l.length + 1
 | [], c => Nat.le_refl _
 | a :: l, c => by
  unfold insV
  split
  ·
   have := insV_len l c
   simp only [List.length_cons]
   omega
  ·
   split <;> simp
theorem insV_at : ∀ (l : List Cv) (c : Cv) (p : Nat), p ≤ l.length → (∀ j, j < p → ordC (cat l j) c < 0) → (p < l.length → ¬ ordC (cat l p) c < 0) →
  insV l c = (l.take p ++ [c]) ++ (l.drop p).drop (if p < l.length ∧ ordC (cat l p) c = 0 then 1 else 0)
 | [], c, p, h, _, _ => by
  obtain rfl : p = 0 := by simpa using h
  rfl
 | a :: l, c, 0, _, _, h3 => by
  have h4 : ¬ ordC a c < 0 := h3 (by simp)
  unfold insV
  rw [if_neg h4]
  by_cases h5 : ordC a c = 0
  ·
   rw [if_pos h5, if_pos ⟨by simp, h5⟩]
   rfl
  ·
   rw [if_neg h5, if_neg (fun e => h5 e.2)]
   rfl
 | a :: l, c, p + 1, h1, h2, h3 => by
  have h4 : ordC a c < 0 := h2 0 (by omega)
  have ih := insV_at l c p (by simpa using h1) (fun j hj => h2 (j + 1) (by omega)) (fun hp => h3 (by simpa using hp))
  unfold insV
  rw [if_pos h4, ih]
  have e : (p + 1 < (a :: l).length ∧ ordC (cat (a :: l) (p + 1)) c = 0) ↔ (p < l.length ∧ ordC (cat l p) c = 0) := by
   rw [List.length_cons, Nat.add_lt_add_iff_right]
   rfl
  simp only [e, List.take_succ_cons, List.drop_succ_cons, List.cons_append]
def insVs (l : List Cv) : List Cv := l.foldl insV []
theorem insVs_snoc (l : List Cv) (c : Cv) : insVs (l ++ [c]) = insV (insVs l) c := by
 unfold insVs
 rw [List.foldl_append]
 rfl
theorem insVs_spec (l : List Cv) : ∀ k, k ≤ l.length → (insVs (l.take k)).map Cv.cl = insAll ((l.take k).map Cv.cl) ∧ (∀ u ∈ insVs (l.take k), u ∈ l) ∧ (insVs (l.take k)).length ≤ k := by
 intro k
 induction k with
 | zero => exact fun _ => ⟨rfl, (fun u hu => by cases hu), Nat.le_refl _⟩
 | succ k ih =>
  intro hk
  obtain ⟨i1, i2, i3⟩ := ih (by omega)
  rw [List.take_succ_eq_append_getElem (by omega), insVs_snoc]
  refine ⟨?_, fun u hu => ?_, ?_⟩
  ·
   rw [insV_cl, i1, List.map_append, List.map_singleton, insAll_snoc]
  ·
   rcases insV_mem hu with rfl | hu
   ·
    exact List.getElem_mem _
   ·
    exact i2 u hu
  ·
   have := insV_len (insVs (l.take k)) l[k]
   omega
theorem insVs_next (l : List Cv) {k : Nat} (hk : k < l.length) : insVs (l.take (k + 1)) = insV (insVs (l.take k)) (cat l k) := by
 rw [List.take_succ_eq_append_getElem hk, insVs_snoc, cat_get hk]
theorem Cs.cut {w : World} {A : Option Addr} {c : Nat} {l : List Cv} (h : Cs w A c l) (k : Nat) : Cs w A c (l.take k) := by
 refine ⟨fun v hv => h.1 v (List.mem_of_mem_take hv), Nat.le_trans (by rw [List.length_take]; omega) h.2.1, h.2.2.1, fun hn => ?_⟩
 rw [List.length_take] at hn
 obtain ⟨b, off, e, hb, hc⟩ := h.2.2.2 (by omega)
 refine ⟨b, off, e, hb, fun i hi => ?_⟩
 rw [List.length_take] at hi
 have e2 : cat (l.take k) i = cat l i := by
  unfold cat
  rw [List.getElem?_take, if_pos (by omega)]
 rw [e2]
 exact hc i (by omega)
theorem Cs.rest {w : World} {b off c : Nat} {l : List Cv} (h : Cs w (some ⟨b, off, none⟩) c l) {k : Nat} (hk : k ≤ l.length) : Cs w (some ⟨b, off + k * 5, none⟩) (c - k) (l.drop k) := by
 refine ⟨fun v hv => h.1 v (List.mem_of_mem_drop hv), by have := h.2.1; rw [List.length_drop]; omega, by have := h.2.2.1; omega, fun hn => ?_⟩
 rw [List.length_drop] at hn
 obtain ⟨b', off', e, hb, hc⟩ := h.2.2.2 (by omega)
 cases e
 refine ⟨b, off + k * 5, rfl, hb, fun i hi => ?_⟩
 rw [List.length_drop] at hi
 have e2 : cat (l.drop k) i = cat l (k + i) := by
  unfold cat
  rw [List.getElem?_drop]
 rw [e2, show off + k * 5 + i * 5 = off + (k + i) * 5 by omega]
 exact hc (k + i) (by omega)
theorem run_append_cut (w : World) (y : Cv) (ty : TypeId) (A : Option Addr) (p d : Nat) (xs : List Cv) (ad : Addr) (hp : xs.length = p) (hN : Cs w A d xs) (hA : A = none → p = 0) (hy : ∀ j u, (cvcs [y])[j]? = some u → w.cell? (ad.add j) = some u) (c : Nat) (hs : p + 1 ≤ 1000000) :
  ∃ v' w', (Builtin.append_ #[22, 22] ty #[.slice A p p, .slice (some ad) 1 c]).run Tryz.prog w = .ok v' w' ∧ OwnC w' w.heap.size v' (xs ++ [y]) ∧ w.grownBy w' none := by
 obtain ⟨i0, hi, hz0, hz1, hz2⟩ := info_parts Tryz.infoC
 subst hp
 cases A with
 | none =>
  have h0 := List.eq_nil_of_length_eq_zero (hA rfl)
  subst h0
  obtain ⟨v', w', hrun, h1, h2, _⟩ := run_append_cells w w.heap.size (.slice none 0 0) [] [y] ty ad 1 c (OwnC.nil w _) hy rfl (by simp) (Nat.le_refl _)
  exact ⟨v', w', hrun, h1, h2⟩
 | some b =>
  obtain ⟨v', w', hrun, h1, h2⟩ := run_append_arg_grows (P := Tryz.prog) w 22 ty 47 i0 (cvv cv0) 5 72 Tryz.underlying22 hi hz0 hz1 hz2 rfl (by omega) b xs.length xs.length (cvcs xs) (cvcs_len xs) (hN.cells rfl) ad 1 c (cvcs [y]) (cvcs_len [y]) hy (by omega) (by simp only [maxLen]; omega) (by omega)
  refine ⟨v', w', hrun, ?_, h2⟩
  unfold OwnC
  rw [cvcs_app, List.length_append]
  exact h1
theorem oper_append_cut {w : World} {o : Oper} {a : Act} {K : Act → World → Prop} {Q : Exit → Act → World → Prop} (s x : Operand)
  (hop : o.op = Op.call { callee := Callee.builtin Builtin.append, args := #[s, x], argTypes := #[22, 22] }) (y : Cv) (A : Option Addr) (p d : Nat) (xs : List Cv) (ad : Addr) (c : Nat)
  (hs : a.eval s = .slice A p p) (hx : a.eval x = .slice (some ad) 1 c) (hp : xs.length = p) (hN : Cs w A d xs) (hA : A = none → p = 0) (hy : ∀ j u, (cvcs [y])[j]? = some u → w.cell? (ad.add j) = some u) (hsz : p + 1 ≤ 1000000)
  (h : ∀ v' w', OwnC w' w.heap.size v' (xs ++ [y]) → w.grownBy w' none → K (a.put o.dst v') w') : Oper.wp Tryz.prog o a w K Q := by
 obtain ⟨v', w', hrun, h1, h2⟩ := run_append_cut w y o.type A p d xs ad hp hN hA hy c hsz
 unfold Oper.wp execOp
 simp only [hop, resolve, invoke, builtin, Sem.run_bind, Sem.run_pure, Result.andThen_ok, List.map_toArray, List.map_cons, List.map_nil, hs, hx, hrun]
 exact h v' w' h1 h2
theorem oper_append_cs {w : World} {o : Oper} {a : Act} {K : Act → World → Prop} {Q : Exit → Act → World → Prop} (s x : Operand)
  (hop : o.op = Op.call { callee := Callee.builtin Builtin.append, args := #[s, x], argTypes := #[22, 22] }) (base : Nat) (v : Value) (xs ys : List Cv) (A : Option Addr) (m c : Nat)
  (hs : a.eval s = v) (hx : a.eval x = .slice A m c) (how : OwnC w base v xs) (hN : Cs w A c ys) (hm : ys.length = m) (hA : A = none → c = 0) (hsz : xs.length + m ≤ 1000000) (hb : base ≤ w.heap.size)
  (h : ∀ v' w', OwnC w' base v' (xs ++ ys) → w.grownBy w' v.ownBlock → (v'.ownBlock = v.ownBlock ∨ v'.ownBlock = some w.heap.size) → K (a.put o.dst v') w') : Oper.wp Tryz.prog o a w K Q := by
 obtain ⟨v', w', hrun, h1, h2, h3⟩ := run_append_cs w base v xs ys o.type A m c how hN hm hA hsz hb
 unfold Oper.wp execOp
 simp only [hop, resolve, invoke, builtin, Sem.run_bind, Sem.run_pure, Result.andThen_ok, List.map_toArray, List.map_cons, List.map_nil, hs, hx, hrun]
 exact h v' w' h1 h2 h3
theorem cs_none (w : World) (A : Option Addr) {c : Nat} (h : c ≤ maxLen) : Cs w A c [] := ⟨(fun v hv => by cases hv), Nat.zero_le _, h, fun h0 => absurd h0 (Nat.lt_irrefl 0)⟩
theorem ownC_start (w : World) {base : Nat} (h : base ≤ w.heap.size) : OwnC (w.alloc (.cells #[] 47)) base (.slice (some ⟨w.heap.size, 0, none⟩) 0 0) [] := World.ownsRow_made w #[] 0 h (by simp [maxLen]) rfl
theorem put_in {l M : List Cv} {i p : Nat} {x : Cv} (hM : M = insVs (l.take i)) (hx : x = cat l i) (hi : i < l.length) (hp : p ≤ M.length) (h1 : ∀ j, j < p → ordC (cat M j) x < 0) (h2 : p < M.length → ¬ ordC (cat M p) x < 0) :
  insVs (l.take (i + 1)) = (M.take p ++ [x]) ++ (M.drop p).drop (if p < M.length ∧ ordC (cat M p) x = 0 then 1 else 0) := by
 rw [insVs_next l hi, ← hM, ← hx]
 exact insV_at M x p hp h1 h2
theorem filter_cl : ∀ M : List Cv, (M.filter fun u => u.st != 0).map Cv.cl = (M.map Cv.cl).filter fun c => c.s != 0
 | [] => rfl
 | u :: M => by
  have e : (u.cl.s != 0) = (u.st != 0) := by
   show (((u.st : Nat) : Int) != 0) = _
   rw [Bool.eq_iff_iff]
   simp
  rw [List.map_cons, List.filter_cons, List.filter_cons, e]
  split
  ·
   rw [List.map_cons, filter_cl M]
  ·
   exact filter_cl M
theorem last_cl {l M : List Cv} {n : Nat} (hM : M = insVs (l.take n)) (hn : l.length = n) : (M.filter fun u => u.st != 0).map Cv.cl = lastF (l.map Cv.cl) := by
 subst hn
 rw [filter_cl, hM, (insVs_spec l l.length (Nat.le_refl _)).1, List.take_length]
 rfl
theorem filter_next {M : List Cv} {q : Nat} {y : Cv} (hq : q < M.length) (hy : y = cat M q) : (M.take (q + 1)).filter (fun u => u.st != 0) = (M.take q).filter (fun u => u.st != 0) ++ (if y.st = 0 then [] else [y]) := by
 rw [List.take_succ_eq_append_getElem hq, List.filter_append, ← cat_get hq, ← hy]
 congr 1
 rw [List.filter_cons, List.filter_nil]
 by_cases h : y.st = 0
 ·
  rw [if_pos h, if_neg (by rw [h]; decide)]
 ·
  rw [if_neg h, if_pos (by simpa using h)]
end Go.Proofs.YtmfncapgikobkaaGreat
