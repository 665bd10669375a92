/-
  canon: alive.
  canon: how long a quad is, plain.
  cells: the order in which one meets cells who goes through the quarters of a node; plain.
  a range over slices.Backward whose invariants may count draws; limb.trim and limb.Cmp, which draw no less.
  limb.Cmp and big.Cmp, which draw no less; a cell ahead of another one (cells.byPlace).
  cells.byPlace: by rows, then by columns; it turns nothing and takes no draw back.
  cells.at, parting, quarter, byQuarter.
  cells.byQuarter, cells.quarter.
-/
import Derived.Test.YtajgfmfopkggdaaGreatGNcOr
import Derived.Laws.EntriesVeiled
import Derived.Test.YtajgfmfopkggdaaGreatGNcPB
import Derived.LoopN
import Derived.Test.YtajgfmfopkggdaaGreatGNcRS
import Derived.Test.YtajgfmfopkggdaaGreatGCmp
import Derived.Test.YtajgfmfopkggdaaGreatGNdsE
import Derived.Test.YtajgfmfopkggdaaGreatGClG
import Derived.Test.YtajgfmfopkggdaaGreatGLen32
import Derived.Test.YtajgfmfopkggdaaGreatRows
import Derived.Lib.Strings
import Derived.Lib.Slices
import Derived.Lib.Small
import Derived.Lib.Walk
import Derived.Lib.BitFns
import Derived.Deep.RegionWith
import Derived.Deep.RegionHeld3

set_option linter.unusedVariables false
set_option linter.unusedSimpArgs false
set_option maxRecDepth 100000
namespace Go.Proofs.YtajgfmfopkggdaaGreat
open Go.RowKit Nds
theorem rof_at (A : Option Addr) (c n : Nat) (l : List Nd) (k : Int) (q : List Nd) (qn : Nat) (er : Int) (w : World) (h : Ns w A c l) (hn : l.length = n) (hn9 : n ≤ 900000) (hA : A = none → c = 0) (hq : ofQ l k = q) (hqn : q.length = qn) (he : ofE l k = er) :
  Calls Tryz.prog 80 #[.slice A n c, .int .i64 k] w fun e w' => ∃ A' c', e = .returned (.tuple #[.agg #[.slice A' qn c'], .int .i64 er]) ∧ Ns w' A' c' q ∧ (A' = none → c' = 0) ∧ Below w.heap.size w w' :=
 (rof_any A c n l k w h hn hn9 hA).mono fun e w' ⟨A', c', h1, h2, h3, h4⟩ => ⟨A', c', by rw [← hqn, ← hq, ← he]; exact h1, by rw [← hq]; exact h2, h3, h4⟩
structure Al (w W : World) (L : List (Option Addr × Nat × List Nd)) (M : List (Nat × Value)) : Prop where
 sn : Sn w W L
 bx : ∀ t ∈ M, W.heap[t.1]? = some (.cells #[t.2] 26)
theorem Al.start (w : World) : Al w w [] [] := ⟨Sn.start w, by simp⟩
theorem Al.step {w W W' : World} {L : List (Option Addr × Nat × List Nd)} {M : List (Nat × Value)} (s : Al w W L M) (b : Below W.heap.size W W') : Al w W' L M :=
 ⟨s.sn.step b, fun t ht => (b.block t.1 (box_lt (s.bx t ht))).trans (s.bx t ht)⟩
theorem Al.alloc {w W : World} {L : List (Option Addr × Nat × List Nd)} {M : List (Nat × Value)} (s : Al w W L M) (o : Obj) : Al w (W.alloc o) L M := s.step ((Below.refl _ W).alloc (Nat.le_refl _) o)
theorem Al.addN {w W : World} {L : List (Option Addr × Nat × List Nd)} {M : List (Nat × Value)} (s : Al w W L M) {A : Option Addr} {c : Nat} {l : List Nd} (h : Ns W A c l) : Al w W ((A, c, l) :: L) M := ⟨s.sn.add h, s.bx⟩
theorem Al.addB {w W : World} {L : List (Option Addr × Nat × List Nd)} {M : List (Nat × Value)} (s : Al w W L M) (v : Value) : Al w (W.alloc (.cells #[v] 26)) L ((W.heap.size, v) :: M) :=
 ⟨(s.alloc _).sn, fun t ht => by
  rcases List.mem_cons.1 ht with rfl | ht
  ·
   exact heap_alloc_new W _
  ·
   exact (s.alloc _).bx t ht⟩
theorem Al.getN {w W : World} {L : List (Option Addr × Nat × List Nd)} {M : List (Nat × Value)} (s : Al w W L M) {A : Option Addr} {c : Nat} {l : List Nd} (h : (A, c, l) ∈ L) : Ns W A c l := s.sn.get h
theorem Al.getB {w W : World} {L : List (Option Addr × Nat × List Nd)} {M : List (Nat × Value)} (s : Al w W L M) {g : Nat} {v : Value} (h : (g, v) ∈ M) : W.cell? ⟨g, 0, none⟩ = some v := box_cell (s.bx _ h)
end Go.Proofs.YtajgfmfopkggdaaGreat

namespace Go.Proofs.YtajgfmfopkggdaaGreat
open Go.RowKit Nds
theorem ss_end {l : List Nd} {t : Tr} : ∀ (m : Nat) (cur : List Nd) (p : Nat), (at_ cur p).lv ≤ m → SS l t cur p → ∃ cur' p', SS l t cur' p' ∧ holT (den cur' (p' + 1)) = false := by
 intro m
 induction m with
 | zero =>
  intro cur p hm h
  have := fit_lv (loose_fit h.1 h.2.1)
  omega
 | succ m ih =>
  intro cur p hm h
  cases hh : holT (den cur (p + 1)) with
  | false => exact ⟨cur, p, h, hh⟩
  | true =>
   refine ih _ _ ?_ (h.next hh)
   rw [at_last]
   show (at_ cur p).lv - 1 ≤ _
   omega
theorem ofL_len {l : List Nd} (hl : looseB l = true) {n : Nat} (hn : n ≤ l.length) : (OfL l n).length ≤ l.length + 1328 := by
 cases n with
 | zero =>
  unfold OfL
  rw [den_zero, shr_e]
  exact Nat.zero_le _
 | succ p =>
  by_cases he : den l (p + 1) = .e
  ·
   unfold OfL
   rw [he, shr_e]
   exact Nat.zero_le _
  ·
   have hs := SS.start hl (p := p) (by omega) he
   have hv := fit_lv (loose_fit hl (i := p) (by omega))
   obtain ⟨cur, q, h1, h2⟩ := ss_end 1329 l p hv.2 hs
   have h3 := h1.len
   have h4 := inv_enc h1.1 (q + 1) [] (by have := h1.2.1; omega) (inv_nil cur)
   have h5 := h4.len
   have h6 : den cur (q + 1) = shrT (den l (p + 1)) := by rw [← h1.2.2.2.1, shr_done h2]
   rw [h6] at h5
   exact Nat.le_trans h5 h3
theorem ofQ_len (l : List Nd) (k : Int) : (ofQ l k).length ≤ l.length + 1328 := by
 unfold ofQ
 split
 ·
  rename_i h
  unfold okB at h
  rw [Bool.and_eq_true, decide_eq_true_iff] at h
  exact ofL_len h.1 (by omega)
 ·
  exact Nat.zero_le _
end Go.Proofs.YtajgfmfopkggdaaGreat

namespace Go.Proofs.YtajgfmfopkggdaaGreat.Nds
open Num
def qtr (m x y : Nat) : Nat := x / 2 ^ m % 2 + 2 * (y / 2 ^ m % 2)
end Go.Proofs.YtajgfmfopkggdaaGreat.Nds

namespace Go.Proofs.YtajgfmfopkggdaaGreat
open Go.RowKit Go.Shelf Num
attribute [local go_sem] Oper.semAt_some
structure Gro (w w' : World) : Prop where
 b : Below w.heap.size w w'
 d : w.drawn ≤ w'.drawn
theorem Gro.refl (w : World) : Gro w w := ⟨Below.refl _ _, Nat.le_refl _⟩
theorem Gro.trans {a b c : World} (h : Gro a b) (k : Gro b c) : Gro a c := ⟨h.b.trans (k.b.mono h.b.size), Nat.le_trans h.d k.d⟩
theorem Gro.alloc {a w : World} (h : Gro a w) (o : Obj) : Gro a (w.alloc o) := h.trans ⟨(Below.refl _ w).alloc (Nat.le_refl _) o, Nat.le_refl _⟩
theorem Gro.drewN {a w : World} (h : Gro a w) (n : Nat) : Gro a (w.drewN n) := h.trans ⟨below_drewN (Below.refl _ _) n, Nat.le_add_right _ _⟩
structure Marks {β : Type} (B : Nat) (I : β → World → Prop) : Prop where
 lay : ∀ s W (o : Obj), I s W → o.isCells = false → I s (W.alloc o)
 put : ∀ s W l (o o' : Obj), I s W → B ≤ l → W.heap[l]? = some o → o.isCells = false → I s (W.putObj l o')
theorem Marks.and {β : Type} {B : Nat} {I I' : β → World → Prop} (h : Marks B I) (k : Marks B I') : Marks B (fun s W => I s W ∧ I' s W) :=
 ⟨fun s W o hs ho => ⟨h.lay s W o hs.1 ho, k.lay s W o hs.2 ho⟩, fun s W l o o' hs hB hl ho => ⟨h.put s W l o o' hs.1 hB hl ho, k.put s W l o o' hs.2 hB hl ho⟩⟩
theorem Gro.put {a W : World} (h : Gro a W) {l : Nat} {o : Obj} (o' : Obj) (hl : a.heap.size ≤ l) (ho : W.heap[l]? = some o) : Gro a (W.putObj l o') :=
 ⟨h.b.grown (grownBy_putObj' W l o') h.b.size (fun k e => by cases e; exact hl), h.d⟩
theorem Gro.setCell {a W : World} (h : Gro a W) {p : Addr} (hp : a.heap.size ≤ p.block) (u : Value) : Gro a (W.setCell p u) := ⟨h.b.setCell hp u, h.d⟩
end Go.Proofs.YtajgfmfopkggdaaGreat

namespace Go.Proofs.YtajgfmfopkggdaaGreat
open Go.RowKit Go.Shelf Num Nds
attribute [local go_sem] Oper.semAt_some
structure CmpStG (w W0 : World) (v : Value) (W : World) : Prop where
 size : W0.heap.size = w.heap.size + 2
 cell : W.cell? ⟨w.heap.size, 0, none⟩ = some v
 free : W.frozen? ⟨w.heap.size, 0, none⟩ = false
 cellR : W.cell? ⟨w.heap.size + 1, 0, none⟩ = some (.int .i64 0)
 freeR : W.frozen? ⟨w.heap.size + 1, 0, none⟩ = false
 b : Gro W0 W
 base : Gro w W0
theorem CmpStG.next {w W0 W W1 : World} {v : Value} (h : CmpStG w W0 v W) (hg : Gro W W1) : CmpStG w W0 v W1 :=
 have l0 := lt_of_cell h.cell
 have l1 := lt_of_cell h.cellR
 have hb := hg.b
 ⟨h.size, (hb.cell (p := ⟨w.heap.size, 0, none⟩) l0).trans h.cell, (hb.frozen (p := ⟨w.heap.size, 0, none⟩) l0).trans h.free, (hb.cell (p := ⟨w.heap.size + 1, 0, none⟩) l1).trans h.cellR, (hb.frozen (p := ⟨w.heap.size + 1, 0, none⟩) l1).trans h.freeR,
  h.b.trans hg, h.base⟩
end Go.Proofs.YtajgfmfopkggdaaGreat

namespace Go.Proofs.YtajgfmfopkggdaaGreat
open Go.RowKit Nds
def CvR (v : Cv) : Prop := CanonI v.sx v.xs ∧ CanonI v.sy v.ys ∧ v.xs.length ≤ 60000 ∧ v.ys.length ≤ 60000
end Go.Proofs.YtajgfmfopkggdaaGreat

namespace Go.Proofs.YtajgfmfopkggdaaGreat
open Go.RowKit Nds Num
structure TwoB (w : World) (B : Nat) (x y : Bool × Option Addr × Nat × List Nat) (W : World) : Prop where
 g : Gro w W
 lt : B + 1 < W.heap.size
 x0 : W.cell? ⟨B, 0, none⟩ = some (.bool x.1)
 x1 : W.cell? ⟨B, 1, none⟩ = some (.slice x.2.1 x.2.2.2.length x.2.2.1)
 y0 : W.cell? ⟨B + 1, 0, none⟩ = some (.bool y.1)
 y1 : W.cell? ⟨B + 1, 1, none⟩ = some (.slice y.2.1 y.2.2.2.length y.2.2.1)
 ux : Us W x.2.1 x.2.2.1 x.2.2.2
 uy : Us W y.2.1 y.2.2.1 y.2.2.2
theorem TwoB.next {w : World} {B : Nat} {x y : Bool × Option Addr × Nat × List Nat} {W W1 : World} (h : TwoB w B x y W) (k : Gro W W1) : TwoB w B x y W1 :=
 ⟨h.g.trans k, Nat.lt_of_lt_of_le h.lt k.b.size, (k.b.cell (p := ⟨B, 0, none⟩) (by have := h.lt; show B < _; omega)).trans h.x0, (k.b.cell (p := ⟨B, 1, none⟩) (by have := h.lt; show B < _; omega)).trans h.x1,
  (k.b.cell (p := ⟨B + 1, 0, none⟩) h.lt).trans h.y0, (k.b.cell (p := ⟨B + 1, 1, none⟩) h.lt).trans h.y1, h.ux.below k.b, h.uy.below k.b⟩
theorem TwoB.drew {w : World} {B : Nat} {x y : Bool × Option Addr × Nat × List Nat} {W : World} (h : TwoB w B x y W) : TwoB w B x y W.drew := h.next ((Gro.refl W).drewN 1)
end Go.Proofs.YtajgfmfopkggdaaGreat

namespace Go.Proofs.YtajgfmfopkggdaaGreat
open Go.RowKit Nds Num
structure CS (w : World) (B : Nat) (v u : Cv) (W : World) : Prop where
 g : Gro w W
 lt : B + 1 < W.heap.size
 bv : CvAt W B 0 v
 bu : CvAt W (B + 1) 0 u
 uv : CvU W v
 uu : CvU W u
theorem CS.next {w : World} {B : Nat} {v u : Cv} {W W1 : World} (h : CS w B v u W) (k : Gro W W1) : CS w B v u W1 :=
 ⟨h.g.trans k, Nat.lt_of_lt_of_le h.lt k.b.size, h.bv.below (k.b.block _ (by have := h.lt; omega)), h.bu.below (k.b.block _ h.lt), h.uv.below k.b, h.uu.below k.b⟩
theorem CS.new (w : World) (v u : Cv) (h : CvU w v) (k : CvU w u) (t : TypeId) : CS w w.heap.size v u ((w.alloc (.cells #[.bool v.sx, .slice v.ax v.xs.length v.cx, .bool v.sy, .slice v.ay v.ys.length v.cy, .int .u8 v.st] t)).alloc (.cells #[.bool u.sx, .slice u.ax u.xs.length u.cx, .bool u.sy, .slice u.ay u.ys.length u.cy, .int .u8 u.st] t)) := by
 have hg : Gro w ((w.alloc (.cells #[.bool v.sx, .slice v.ax v.xs.length v.cx, .bool v.sy, .slice v.ay v.ys.length v.cy, .int .u8 v.st] t)).alloc (.cells #[.bool u.sx, .slice u.ax u.xs.length u.cx, .bool u.sy, .slice u.ay u.ys.length u.cy, .int .u8 u.st] t)) := ((Gro.refl w).alloc _).alloc _
 refine ⟨hg, by simp, (CvAt.new w v _).below (Below.heap_alloc _ _ _ (by simp)), ?_, h.below hg.b, k.below hg.b⟩
 have h1 := CvAt.new (w.alloc (.cells #[.bool v.sx, .slice v.ax v.xs.length v.cx, .bool v.sy, .slice v.ay v.ys.length v.cy, .int .u8 v.st] t)) u t
 rwa [show (w.alloc (.cells #[.bool v.sx, .slice v.ax v.xs.length v.cx, .bool v.sy, .slice v.ay v.ys.length v.cy, .int .u8 v.st] t)).heap.size = w.heap.size + 1 by simp] at h1
def quaC (v : Cv) (m : Nat) : Nat := qtr m (val v.xs) (val v.ys)
end Go.Proofs.YtajgfmfopkggdaaGreat
