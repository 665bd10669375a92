/-
  cells, the reference: counts, Count.
  cells, the reference: List.
  look: the reference's in.
  look: the reference's quarter.
-/
import Derived.Test.YtajgfmfopkggdaaGreatGClCo
import Derived.Test.YtajgfmfopkggdaaGreatGNcE
import Derived.Test.YtajgfmfopkggdaaGreatGClLs
import Derived.Test.YtajgfmfopkggdaaGreatGClPj
import Derived.Test.YtajgfmfopkggdaaGreatGNcRS
import Derived.Test.YtajgfmfopkggdaaGreatGNdsE
import Derived.Test.YtajgfmfopkggdaaGreatGLkGw
import Derived.Test.YtajgfmfopkggdaaGreatGClWi
import Derived.Deep.RegionHeld3
import Derived.BigRegion

set_option linter.unusedVariables false
set_option linter.unusedSimpArgs false
set_option maxRecDepth 100000
namespace Go.Proofs.YtajgfmfopkggdaaGreat
open Go.RowKit Nds Num
structure RcW (w : World) (n : Nat) (l : List Nd) (gr : Nat) (L : List Gv) (i : Nat) (m : Int) (W : World) : Prop where
 b : Below w.heap.size w W
 row : OwnG W w.heap.size gr (n + 1) L
 fine : ∀ j, j ≤ i → GIn W (gat L j) (countT (den l j) : Nat)
 now : i < n → GIn W (gat L (i + 1)) m
 zero : ∀ j, i + 1 < j → j ≤ n → gat L j = gv0
theorem RcW.next {w : World} {n : Nat} {l : List Nd} {gr : Nat} {L : List Gv} {i : Nat} {m : Int} {W W1 : World} (h : RcW w n l gr L i m W) (k : Below W.heap.size W W1) : RcW w n l gr L i m W1 :=
 ⟨h.b.trans (k.mono h.b.size), h.row.next k, fun j hj => (h.fine j hj).next k, fun e => (h.now e).next k, h.zero⟩
theorem RcW.put {w : World} {n : Nat} {l : List Nd} {gr : Nat} {L : List Gv} {i : Nat} {m m2 : Int} {W : World} (h : RcW w n l gr L i m W) (hi : i < n) {s : Bool} {B : Option Addr} {d : Nat} {xs : List Nat} (hu : Us W B d xs) (hc : CanonI s xs) (hv : ival s xs = m2) :
  RcW w n l gr (L.set (i + 1) ⟨s, B, d, xs⟩) i m2 ((W.setCell ⟨gr, (i + 1) * 2, none⟩ (.bool s)).setCell ⟨gr, (i + 1) * 2 + 1, none⟩ (.slice B xs.length d)) := by
 have hg := setC_two W gr ((i + 1) * 2) ((i + 1) * 2 + 1) (.bool s) (.slice B xs.length d)
 obtain ⟨r1, r2, r3, r4, r5⟩ := h.row.row
 refine ⟨h.b.grown hg h.b.size (fun q e => by cases e; exact r1), h.row.put (by omega) ⟨s, B, d, xs⟩, fun j hj => ?_, fun _ => ?_, fun j hj hn => ?_⟩
 ·
  rw [gat_set_ne (by omega)]
  exact (h.fine j hj).over r5 hg
 ·
  rw [gat_set_same (by rw [h.row.1]; omega)]
  exact ⟨us_kept hu (fun q h1 h2 => hg.block q h1 (fun e => h2 (by cases e; rfl))) hg.size (us_off hu r5), hc, hv⟩
 ·
  rw [gat_set_ne (by omega)]
  exact h.zero j hj hn
theorem RcW.step {w : World} {n : Nat} {l : List Nd} {gr : Nat} {L : List Gv} {i : Nat} {W : World} (h : RcW w n l gr L i (countT (den l (i + 1)) : Nat) W) (hi : i < n) : RcW w n l gr L (i + 1) 0 W :=
 ⟨h.b, h.row, fun j hj => by
  rcases Nat.lt_or_ge i j with h1 | h1
  ·
   rw [show j = i + 1 by omega]; exact h.now hi
  ·
   exact h.fine j h1, fun hn => by rw [h.zero (i + 1 + 1) (by omega) (by omega)]; exact GIn.zero W, fun j hj hn => h.zero j (by omega) hn⟩
end Go.Proofs.YtajgfmfopkggdaaGreat

namespace Go.Proofs.YtajgfmfopkggdaaGreat
open Go.RowKit Nds Num
set_option maxHeartbeats 1600000 in
theorem rlevel_any (A : Option Addr) (c n : Nat) (l : List Nd) (w : World) (h : Ns w A c l) (hn : l.length = n) :
  Calls Tryz.prog 62 #[.agg #[.slice A n c]] w fun e w' => e = .returned (.int .i64 (levelZ l)) ∧ Below w.heap.size w w' := by
 have hcap := h.cap
 rw [hn] at hcap
 have HB := Lib.hid ((Below.refl w.heap.size w).alloc (Nat.le_refl _) (.cells #[.slice A n c] 26))
 by_cases h0 : n = 0
 ·
  have hr : levelZ l = 0 := by
   unfold levelZ
   rw [if_pos (List.eq_nil_of_length_eq_zero (hn.trans h0))]
  rw [hr]
  have t1 : ((n : Int) == 0) = true := by rw [h0]; rfl
  clear h0 hn hr h
  go_enter Tryz.func62, Tryz.ntmps62
  go_wp2_with fail
  go_ret
  exact ⟨rfl, HB.out⟩
 ·
  obtain ⟨b, off, rfl, hb, hc⟩ := h.at_ (by omega)
  obtain ⟨p, rfl⟩ : ∃ p, n = p + 1 := ⟨n - 1, by omega⟩
  have c1 := (hc p (by omega)).1
  have hr : levelZ l = (at_ l p).lv := by
   unfold levelZ
   rw [if_neg (fun e => by rw [e] at hn; cases hn), hn]
   rfl
  rw [hr]
  generalize (at_ l p).lv = u at *
  have t1 : (((p + 1 : Nat) : Int) == 0) = false := beq_eq_false_iff_ne.2 (by omega)
  have t2 : ((p : Int) + 1 == 0) = false := beq_eq_false_iff_ne.2 (by omega)
  have i1 : (p : Int) < (p : Int) + 1 := by omega
  clear h0 hn hr h hc
  go_enter Tryz.func62, Tryz.ntmps62
  go_wp2_with fail
  go_ret
  exact ⟨rfl, HB.out⟩
end Go.Proofs.YtajgfmfopkggdaaGreat

namespace Go.Proofs.YtajgfmfopkggdaaGreat
open Go.RowKit Num Nds
structure I2 (w : World) (g h : Nat) (s : Bool) (A : Option Addr) (c : Nat) (xs : List Nat) (X : Int) (t : Bool) (B : Option Addr) (d : Nat) (ys : List Nat) (Y : Int) (W : World) : Prop where
 b : Below w.heap.size w W
 x : HX W g s A c xs X
 y : HX W h t B d ys Y
theorem I2.next {w : World} {g h : Nat} {s : Bool} {A : Option Addr} {c : Nat} {xs : List Nat} {X : Int} {t : Bool} {B : Option Addr} {d : Nat} {ys : List Nat} {Y : Int} {W W1 : World} (k : I2 w g h s A c xs X t B d ys Y W) (q : Below W.heap.size W W1) : I2 w g h s A c xs X t B d ys Y W1 :=
 ⟨k.b.trans (q.mono k.b.size), k.x.next q, k.y.next q⟩
theorem I2.at_ {w : World} {g h : Nat} {s : Bool} {A : Option Addr} {c : Nat} {xs : List Nat} {X : Int} {t : Bool} {B : Option Addr} {d : Nat} {ys : List Nat} {Y : Int} {W : World} (k : I2 w g h s A c xs X t B d ys Y W) :
  W.cell? ⟨g, 0, none⟩ = some (.bool s) ∧ W.cell? ⟨g, 1, none⟩ = some (.slice A xs.length c) ∧ W.cell? ⟨h, 0, none⟩ = some (.bool t) ∧ W.cell? ⟨h, 1, none⟩ = some (.slice B ys.length d) := ⟨k.x.c0, k.x.c1, k.y.c0, k.y.c1⟩
end Go.Proofs.YtajgfmfopkggdaaGreat

namespace Go.Proofs.YtajgfmfopkggdaaGreat
open Go.RowKit Num Nds
structure Bw where
 s : Bool
 a : Option Addr
 c : Nat
 xs : List Nat
abbrev Bw.val (u : Bw) : Value := .agg #[.bool u.s, .slice u.a u.xs.length u.c]
abbrev Bw.obj (u : Bw) : Obj := .cells #[.bool u.s, .slice u.a u.xs.length u.c] 31
structure Bw.R (u : Bw) (W : World) (X : Int) : Prop where
 us : Us W u.a u.c u.xs
 cn : CanonI u.s u.xs
 v : ival u.s u.xs = X
theorem Bw.R.next {u : Bw} {W W1 : World} {X : Int} (h : u.R W X) (k : Below W.heap.size W W1) : u.R W1 X := ⟨h.us.below k, h.cn, h.v⟩
structure Bw.B (u : Bw) (W : World) (g : Nat) (X : Int) : Prop where
 box : W.heap[g]? = some u.obj
 r : u.R W X
theorem Bw.B.lt {u : Bw} {W : World} {g : Nat} {X : Int} (h : u.B W g X) : g < W.heap.size := (Array.getElem?_eq_some_iff.1 h.box).1
theorem Bw.B.c0 {u : Bw} {W : World} {g : Nat} {X : Int} (h : u.B W g X) : W.cell? ⟨g, 0, none⟩ = some (.bool u.s) := by rw [cell_of_row W g _ _ _ (0, 0) h.box]; rfl
theorem Bw.B.c1 {u : Bw} {W : World} {g : Nat} {X : Int} (h : u.B W g X) : W.cell? ⟨g, 1, none⟩ = some (.slice u.a u.xs.length u.c) := by rw [cell_of_row W g _ _ _ (0, 0) h.box]; rfl
theorem Bw.B.free {u : Bw} {W : World} {g : Nat} {X : Int} (h : u.B W g X) (k : Nat) : W.frozen? ⟨g, k, none⟩ = false := frozen_of_row W g k _ _ h.box
theorem Bw.B.next {u : Bw} {W W1 : World} {g : Nat} {X : Int} (h : u.B W g X) (k : Below W.heap.size W W1) : u.B W1 g X := ⟨(k.block g h.lt).trans h.box, h.r.next k⟩
theorem Bw.R.box {u : Bw} {w : World} {X : Int} (h : u.R w X) : u.B (w.alloc u.obj) w.heap.size X := ⟨heap_alloc_new w _, h.next ((Below.refl _ w).alloc (Nat.le_refl _) _)⟩
theorem Bw.R.stored {u : Bw} {W : World} {X : Int} (h : u.R W X) {g : Nat} {o : Bw} (hb : W.heap[g]? = some o.obj) (n : Bw) : u.R ((W.setCell ⟨g, 0, none⟩ (.bool n.s)).setCell ⟨g, 1, none⟩ (.slice n.a n.xs.length n.c)) X :=
 ⟨us_kept h.us (fun k _ hk => (Below.heap_setCell _ _ _ _ hk).trans (Below.heap_setCell _ _ _ _ hk)) (by simp [World.setCell]) (us_off h.us (bool_cell hb)), h.cn, h.v⟩
theorem Bw.B.other {u : Bw} {W : World} {g' : Nat} {X : Int} (h : u.B W g' X) {g : Nat} {o : Bw} (hb : W.heap[g]? = some o.obj) (hne : g' ≠ g) (n : Bw) : u.B ((W.setCell ⟨g, 0, none⟩ (.bool n.s)).setCell ⟨g, 1, none⟩ (.slice n.a n.xs.length n.c)) g' X :=
 ⟨((Below.heap_setCell _ _ _ _ hne).trans (Below.heap_setCell _ _ _ _ hne)).trans h.box, h.r.stored hb n⟩
theorem Bw.R.set {u : Bw} {W : World} {X : Int} (h : u.R W X) {g : Nat} {o : Bw} (hb : W.heap[g]? = some o.obj) : u.B ((W.setCell ⟨g, 0, none⟩ (.bool u.s)).setCell ⟨g, 1, none⟩ (.slice u.a u.xs.length u.c)) g X :=
 ⟨heap_setCell_same _ g 1 _ _ _ (heap_setCell_same W g 0 _ _ _ hb), h.stored hb u⟩
theorem retI_bw {n : Int} {w w' : World} {e : Ending} (h : RetI n w e w') : ∃ u : Bw, e = .returned u.val ∧ u.R w' n ∧ Below w.heap.size w w' := by
 obtain ⟨A, c, s, r, he, hu, hk, hv, hb⟩ := h
 exact ⟨⟨s, A, c, r⟩, he, ⟨hu, hk, hv⟩, hb⟩
def bw0 : Bw := ⟨false, none, 0, []⟩
theorem bw_len {u : Bw} {W : World} {X : Int} (h : u.R W X) (h0 : -p2 1330 ≤ X) (h1 : X ≤ p2 1330) : u.xs.length ≤ 50 := len_near h.cn h.v h0 h1
structure QQ (w : World) (gx gy g7 g8 gh : Nat) (u v h : Bw) (X Y H : Int) (W : World) : Prop where
 b : Below w.heap.size w W
 x : u.B W gx X
 y : v.B W gy Y
 h : h.B W gh H
 r7 : W.heap[g7]? = some bw0.obj
 r8 : W.heap[g8]? = some bw0.obj
theorem QQ.next {w : World} {gx gy g7 g8 gh : Nat} {u v h : Bw} {X Y H : Int} {W W1 : World} (q : QQ w gx gy g7 g8 gh u v h X Y H W) (k : Below W.heap.size W W1) : QQ w gx gy g7 g8 gh u v h X Y H W1 :=
 ⟨q.b.trans (k.mono q.b.size), q.x.next k, q.y.next k, q.h.next k, (k.block _ (Array.getElem?_eq_some_iff.1 q.r7).1).trans q.r7, (k.block _ (Array.getElem?_eq_some_iff.1 q.r8).1).trans q.r8⟩
theorem QQ.done {w : World} {gx gy g7 g8 gh : Nat} {u v h : Bw} {X Y H : Int} {W : World} (q : QQ w gx gy g7 g8 gh u v h X Y H W) (h7 : w.heap.size ≤ g7) (h8 : w.heap.size ≤ g8) (hne : g7 ≠ g8) :
  u.B ((((W.setCell ⟨g7, 0, none⟩ (.bool u.s)).setCell ⟨g7, 1, none⟩ (.slice u.a u.xs.length u.c)).setCell ⟨g8, 0, none⟩ (.bool v.s)).setCell ⟨g8, 1, none⟩ (.slice v.a v.xs.length v.c)).drew g7 X ∧ v.B ((((W.setCell ⟨g7, 0, none⟩ (.bool u.s)).setCell ⟨g7, 1, none⟩ (.slice u.a u.xs.length u.c)).setCell ⟨g8, 0, none⟩ (.bool v.s)).setCell ⟨g8, 1, none⟩ (.slice v.a v.xs.length v.c)).drew g8 Y ∧ Below w.heap.size w ((((W.setCell ⟨g7, 0, none⟩ (.bool u.s)).setCell ⟨g7, 1, none⟩ (.slice u.a u.xs.length u.c)).setCell ⟨g8, 0, none⟩ (.bool v.s)).setCell ⟨g8, 1, none⟩ (.slice v.a v.xs.length v.c)).drew := by
 have e8 : ((W.setCell ⟨g7, 0, none⟩ (.bool u.s)).setCell ⟨g7, 1, none⟩ (.slice u.a u.xs.length u.c)).heap[g8]? = some bw0.obj := ((Below.heap_setCell _ _ _ _ (fun e => hne e.symm)).trans (Below.heap_setCell _ _ _ _ (fun e => hne e.symm))).trans q.r8
 have ha := q.x.r.set q.r7
 have hb := (q.y.r.stored q.r7 u).set e8
 have hb2 := ha.other e8 hne v
 exact ⟨hb2.next (Below.drew' (Below.refl _ _)), hb.next (Below.drew' (Below.refl _ _)), Below.drew' ((((q.b.setCell h7 _).setCell h7 _).setCell h8 _).setCell h8 _)⟩
end Go.Proofs.YtajgfmfopkggdaaGreat
