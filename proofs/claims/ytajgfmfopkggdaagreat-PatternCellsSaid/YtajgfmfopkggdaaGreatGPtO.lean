/-
  box: the fixed fact.
  pattern: the program's calls and the reference's.
  pattern: the calls of the program and of the reference, walked.
  pattern: the reference's Of.
-/
import Derived.Test.YtajgfmfopkggdaaGreatGBxY
import Derived.Test.YtajgfmfopkggdaaGreatGLkQ
import Derived.Test.YtajgfmfopkggdaaGreatGClRow
import Derived.Test.YtajgfmfopkggdaaGreatGLkGw
import Derived.Test.YtajgfmfopkggdaaGreatGNdSame
import Derived.Test.YtajgfmfopkggdaaGreatGNcE
import Derived.Test.YtajgfmfopkggdaaGreatLay0

set_option linter.unusedVariables false
set_option linter.unusedSimpArgs false
set_option maxRecDepth 100000
namespace Go.Proofs.YtajgfmfopkggdaaGreat
open Go.RowKit Num Nds
theorem wf_lvS {m : Nat} {t : Tr} (hw : wfT ((m : Int) + 1) t) (h : t ≠ .e) : t.lv = (m : Int) + 1 := by
 cases t with
 | e => exact absurd rfl h
 | s k => exact absurd hw.1 (by omega)
 | n v a b c d =>
  have hw' : wfT (((m + 1 : Nat)) : Int) (.n v a b c d) := hw
  obtain ⟨m', hm, rfl, -⟩ := wf_n hw'
  have : m = m' := by omega
  subst this
  rfl
theorem BxV.cells {q : List Nd} (hg : GoodL q) {ok : Bool} {X Y V H : Int} (b : BxV q q.length ok X Y V H) :
  (q = [] ∧ ok = false ∧ X = 0 ∧ Y = 0 ∧ V = 0 ∧ H = 0) ∨ (ok = true ∧ (∀ x y, cellM (den q q.length) x y ≠ 0 → X ≤ x ∧ x ≤ X + V - 1 ∧ Y ≤ y ∧ y ≤ Y + H - 1) ∧
   (∃ x y, cellM (den q q.length) x y ≠ 0 ∧ x = X) ∧ (∃ x y, cellM (den q q.length) x y ≠ 0 ∧ x = X + V - 1) ∧ (∃ x y, cellM (den q q.length) x y ≠ 0 ∧ y = Y) ∧ ∃ x y, cellM (den q q.length) x y ≠ 0 ∧ y = Y + H - 1) := by
 rcases b with ⟨h0, h1⟩ | ⟨h0, rfl, h1⟩
 ·
  exact .inl ⟨List.length_eq_zero_iff.1 h0, h1⟩
 ·
  refine .inr ⟨rfl, ?_⟩
  have hlv := fit_lv (loose_fit hg.1 (i := q.length - 1) (by omega))
  obtain ⟨m, hm⟩ : ∃ m : Nat, (at_ q (q.length - 1)).lv = (m : Int) + 1 := ⟨(at_ q (q.length - 1)).lv.toNat - 1, by omega⟩
  have hw := wf_den hg.1 (q.length - 1) (by omega)
  rw [Nat.sub_add_cancel (by omega), hm] at hw
  have hne := (hg.2 (q.length - 1) (by omega)).1
  rw [Nat.sub_add_cancel (by omega)] at hne
  have hn : (den q q.length).lv.toNat = (at_ q (q.length - 1)).lv.toNat := by rw [wf_lvS hw hne, hm]
  obtain ⟨t1, t2, t3, t4⟩ := h1.touch hn
  exact ⟨fun x y h => h1.cell hn h, t1, t2, t3, t4⟩
theorem cs_two9 {w : World} {g : Nat} (u v : Cv) (h : w.heap[g]? = some (.cells #[.bool u.sx, .slice u.ax u.xs.length u.cx, .bool u.sy, .slice u.ay u.ys.length u.cy, .int .u8 u.st, .bool v.sx, .slice v.ax v.xs.length v.cx, .bool v.sy, .slice v.ay v.ys.length v.cy, .int .u8 v.st] 100)) (hu : CvU w u) (hv : CvU w v) : Cs w (some ⟨g, 0, none⟩) 2 [u, v] := by
 refine ⟨fun x hx => ?_, Nat.le_refl _, by simp [maxLen], fun _ => ⟨g, 0, rfl, (Array.getElem?_eq_some_iff.1 h).1, fun i hi => ?_⟩⟩
 ·
  simp only [List.mem_cons, List.not_mem_nil, or_false] at hx
  rcases hx with rfl | rfl
  ·
   exact hu
  ·
   exact hv
 ·
  match i, hi with
  | 0, _ => refine ⟨?_, ?_, ?_, ?_, ?_⟩ <;> (rw [cell_of_row _ _ _ _ _ _ h]; rfl)
  | 1, _ => refine ⟨?_, ?_, ?_, ?_, ?_⟩ <;> (rw [cell_of_row _ _ _ _ _ _ h]; rfl)
structure A9 (w W : World) (A : Option Addr) (c : Nat) (q : List Nd) (g2 gp : Nat) (p : Xb) : Prop where
 ag : Ag w W [(A, c, q)] [(g2, .slice A q.length c)] []
 pb : W.heap[gp]? = some p.obj
 pr : p.R W 2 3 4 1
theorem A9.next {w W W' : World} {A : Option Addr} {c : Nat} {q : List Nd} {g2 gp : Nat} {p : Xb} (h : A9 w W A c q g2 gp p) (k : Below W.heap.size W W') : A9 w W' A c q g2 gp p := ⟨h.ag.step k, (k.block _ (heapLt h.pb)).trans h.pb, h.pr.next k⟩
theorem A9.cells {w W : World} {A : Option Addr} {c : Nat} {q : List Nd} {g2 gp : Nat} {p : Xb} (h : A9 w W A c q g2 gp p) : W.cell? ⟨g2, 0, none⟩ = some (.slice A q.length c) ∧ W.cell? ⟨gp, 0, none⟩ = some (.bool p.x.s) ∧ W.cell? ⟨gp, 1, none⟩ = some (.slice p.x.a p.x.xs.length p.x.c) ∧ W.cell? ⟨gp, 2, none⟩ = some (.bool p.y.s) ∧ W.cell? ⟨gp, 3, none⟩ = some (.slice p.y.a p.y.xs.length p.y.c) ∧ W.cell? ⟨gp, 4, none⟩ = some (.bool p.w.s) ∧ W.cell? ⟨gp, 5, none⟩ = some (.slice p.w.a p.w.xs.length p.w.c) ∧ W.cell? ⟨gp, 6, none⟩ = some (.bool p.h.s) ∧ W.cell? ⟨gp, 7, none⟩ = some (.slice p.h.a p.h.xs.length p.h.c) := ⟨h.ag.getB (by simp), Xb.cells h.pb⟩
theorem A9.ns {w W : World} {A : Option Addr} {c : Nat} {q : List Nd} {g2 gp : Nat} {p : Xb} (h : A9 w W A c q g2 gp p) : Ns W A c q := h.ag.getN (by simp)
theorem near9 {n : Int} (h : -8 ≤ n ∧ n < 8) : -p2 1330 ≤ n ∧ n ≤ p2 1330 := by
 have h1 := p2_mono (show 3 ≤ 1330 by omega)
 have h2 : p2 3 = 8 := rfl
 omega
theorem canon_right9 {s : Bool} {xs : List Nat} (h : CanonI s xs) : rightI s xs = true := by
 unfold rightI
 rw [Bool.and_eq_true]
 constructor
 ·
  have h1 := h.1
  unfold Canon at h1
  rw [List.getLast?_eq_getElem?] at h1
  unfold rightB
  rw [Bool.or_eq_true]
  rcases Nat.eq_zero_or_pos xs.length with h0 | h0
  ·
   exact .inl (by rw [h0]; rfl)
  ·
   right
   rw [bne_iff_ne]
   rw [List.getElem?_eq_getElem (by omega)] at h1 ⊢
   exact fun e => h1 (by rw [← e]; rfl)
 ·
  cases s
  ·
   rfl
  ·
   have := h.2 rfl
   simp
   exact List.length_pos_iff.2 this
end Go.Proofs.YtajgfmfopkggdaaGreat

namespace Go.Proofs.YtajgfmfopkggdaaGreat
open Go.RowKit Num Nds Txt
theorem quad_goodL {q : List Nd} (h : quadB q = true) : GoodL q := by
 by_cases hne : q = []
 ·
  subst hne; exact good_nil
 ·
  have hl := quad_loose h
  have hi := ((quad_iff hne hl).1 h).2.1
  refine ⟨hl, fun i hq => ⟨fun e => ?_, fun j hj e => ?_⟩⟩
  ·
   have h1 := (hi i hq).1
   rw [empB_den hl (by omega), e] at h1
   cases h1
  ·
   refine (hi i hq).2 ?_
   rw [← e]
   have : j < (q.take i).length := by rw [List.length_take]; omega
   have e2 : at_ q j = (q.take i)[j] := by
    unfold at_
    rw [List.getElem?_eq_getElem (by omega), List.getElem_take]
    rfl
   rw [e2]
   exact List.getElem_mem _
def WinP (l : List Nd) (n : Nat) (most : Int) : Prop := ∃ (X Y V H : Int) (ok : Bool), BxV l n ok X Y V H ∧ V ≤ most ∧ H ≤ most
theorem win_of {l : List Nd} {n : Nat} {ok : Bool} {X Y V H most : Int} (bv : BxV l n ok X Y V H) : (decide (V ≤ most) && decide (H ≤ most)) = true ↔ WinP l n most := by
 rw [Bool.and_eq_true, decide_eq_true_iff, decide_eq_true_iff]
 constructor
 ·
  exact fun h => ⟨X, Y, V, H, ok, bv, h.1, h.2⟩
 ·
  rintro ⟨X', Y', V', H', ok', bv', h⟩
  obtain ⟨-, -, -, rfl, rfl⟩ := bv.one bv'
  exact h
def ExpP (f : Int) (l : List Nd) (n : Nat) (box : Int) : Prop := f = 5 ∨ (WinP l n box ∧ (f = 4 ∨ mostF l % 256 ≤ 1))
theorem ExpP.more {f : Int} {l : List Nd} {n : Nat} {b b' : Int} (h : ExpP f l n b) (hb : b ≤ b') : ExpP f l n b' := by
 rcases h with h | ⟨⟨X, Y, V, H, ok, bv, h1, h2⟩, h3⟩
 ·
  exact .inl h
 ·
  exact .inr ⟨⟨X, Y, V, H, ok, bv, by omega, by omega⟩, h3⟩
theorem ExpP.four {f : Int} {l : List Nd} {n : Nat} {b : Int} (h : ExpP f l n b) (hf : f ≠ 5) : ExpP 4 l n b := by
 rcases h with h | ⟨h1, h3⟩
 ·
  exact absurd h hf
 ·
  exact .inr ⟨h1, .inl rfl⟩
def fineB (b m : Int) : Bool := decide (0 ≤ b ∧ b ≤ 1000 ∧ 0 ≤ m ∧ m ≤ 100000)
def fmtB (f : Int) : Bool := decide (1 ≤ f ∧ f ≤ 5)
def mayP (s : ByteArray) (q : List Nd) : Bool := ruleB s.data.toList && quadB q
def RetEx (f : Int) (l : List Nd) (n : Nat) (box : Int) (w : World) (e : Ending) (w' : World) : Prop :=
 ∃ b : Bool, e = .returned (.bool b) ∧ (b = true ↔ ExpP f l n box) ∧ (f = 4 → ∃ (X Y V H : Int) (ok : Bool), BxV l n ok X Y V H) ∧ Below w.heap.size w w'
def CkI (f : Int) (s : ByteArray) (l : List Nd) (n : Nat) (box nodes er : Int) : Prop :=
 ((fmtB f && (mayP s l && fineB box nodes)) = false → er = 1) ∧ ((fmtB f && (mayP s l && fineB box nodes)) = true → (er = 0 ∧ ExpP f l n box) ∨ (er = 5 ∧ ¬ ExpP f l n box))
theorem ck_det (f : Int) (s : ByteArray) (l : List Nd) (n : Nat) (box nodes : Int) : ∃ E : Int, ∀ er, CkI f s l n box nodes er → er = E := by
 cases h : (fmtB f && (mayP s l && fineB box nodes)) with
 | false => exact ⟨1, fun er k => k.1 h⟩
 | true =>
  rcases Classical.em (ExpP f l n box) with he | he
  ·
   exact ⟨0, fun er k => by
    rcases k.2 h with k | k
    ·
     exact k.1
    ·
     exact absurd he k.2⟩
  ·
   exact ⟨5, fun er k => by
    rcases k.2 h with k | k
    ·
     exact absurd k.2 he
    ·
     exact k.1⟩
theorem ex_det (f : Int) (l : List Nd) (n : Nat) (box : Int) : ∃ E : Bool, (E = true ↔ ExpP f l n box) ∧ ∀ b : Bool, (b = true ↔ ExpP f l n box) → b = E := by
 rcases Classical.em (ExpP f l n box) with he | he
 ·
  exact ⟨true, ⟨fun _ => he, fun _ => rfl⟩, fun b k => k.2 he⟩
 ·
  refine ⟨false, ⟨fun h => by (cases h), fun h => absurd h he⟩, fun b k => ?_⟩
  cases b with
  | false => rfl
  | true => exact absurd (k.1 rfl) he
def RetCk (f : Int) (s : ByteArray) (l : List Nd) (n : Nat) (box nodes : Int) (w : World) (e : Ending) (w' : World) : Prop :=
 ∃ er : Int, e = .returned (.int .i64 er) ∧ CkI f s l n box nodes er ∧ Below w.heap.size w w'
end Go.Proofs.YtajgfmfopkggdaaGreat

namespace Go.Proofs.YtajgfmfopkggdaaGreat
open Go.RowKit Num Nds Txt
theorem bytes_same {a b : ByteArray} (h : a.toList = b.toList) : a = b := by
 rw [ByteArray.toList_eq, ByteArray.toList_eq] at h
 obtain ⟨⟨a⟩⟩ := a
 obtain ⟨⟨b⟩⟩ := b
 simp at h
 rw [h]
theorem lim_cells {w : World} {g : Nat} {b m : Int} (h : w.heap[g]? = some (.cells #[.int .i64 b, .int .i64 m] 54)) : w.cell? ⟨g, 0, none⟩ = some (.int .i64 b) ∧ w.cell? ⟨g, 1, none⟩ = some (.int .i64 m) := by
 constructor <;> (rw [cell_of_row _ _ _ _ _ _ h]; rfl)
theorem pat_cells {w : World} {g : Nat} {s : ByteArray} {v : Value} (h : w.heap[g]? = some (.cells #[.string s, v] 52)) : w.cell? ⟨g, 0, none⟩ = some (.string s) ∧ w.cell? ⟨g, 1, none⟩ = some v := by
 constructor <;> (rw [cell_of_row _ _ _ _ _ _ h]; rfl)
structure Pa (w W : World) (A : Option Addr) (c n : Nat) (q : List Nd) (s : ByteArray) (gp gl : Nat) (box nodes : Int) : Prop where
 b : Below w.heap.size w W
 ns : Ns W A c q
 pk : W.heap[gp]? = some (.cells #[.string s, .slice A n c] 52)
 lk : W.heap[gl]? = some (.cells #[.int .i64 box, .int .i64 nodes] 54)
theorem Pa.next {w W W' : World} {A : Option Addr} {c n : Nat} {q : List Nd} {s : ByteArray} {gp gl : Nat} {box nodes : Int} (h : Pa w W A c n q s gp gl box nodes) (k : Below W.heap.size W W') : Pa w W' A c n q s gp gl box nodes :=
 ⟨h.b.trans (k.mono h.b.size), h.ns.below k, (k.block _ (heapLt h.pk)).trans h.pk, (k.block _ (heapLt h.lk)).trans h.lk⟩
theorem Pa.cells {w W : World} {A : Option Addr} {c n : Nat} {q : List Nd} {s : ByteArray} {gp gl : Nat} {box nodes : Int} (h : Pa w W A c n q s gp gl box nodes) :
  W.cell? ⟨gp, 0, none⟩ = some (.string s) ∧ W.cell? ⟨gp, 1, none⟩ = some (.slice A n c) ∧ W.cell? ⟨gl, 0, none⟩ = some (.int .i64 box) ∧ W.cell? ⟨gl, 1, none⟩ = some (.int .i64 nodes) :=
 ⟨(pat_cells h.pk).1, (pat_cells h.pk).2, (lim_cells h.lk).1, (lim_cells h.lk).2⟩
theorem Pa.start {w : World} {A : Option Addr} {c n : Nat} {q : List Nd} (h : Ns w A c q) (s : ByteArray) (box nodes : Int) :
  Pa w ((w.alloc (.cells #[.string s, .slice A n c] 52)).alloc (.cells #[.int .i64 box, .int .i64 nodes] 54)) A c n q s w.heap.size (w.heap.size + 1) box nodes := by
 have b1 := (Below.refl w.heap.size w).alloc (Nat.le_refl _) (.cells #[.string s, .slice A n c] 52)
 have b2 := b1.alloc b1.size (.cells #[.int .i64 box, .int .i64 nodes] 54)
 have x2 := heap_alloc_new (w.alloc (.cells #[.string s, .slice A n c] 52)) (.cells #[.int .i64 box, .int .i64 nodes] 54)
 rw [World.size_alloc] at x2
 exact ⟨b2, h.below b2, (((Below.refl _ _).alloc (Nat.le_refl _) _).block _ (by rw [World.size_alloc]; omega)).trans (heap_alloc_new w _), x2⟩
set_option maxHeartbeats 3200000 in
theorem pfine_any (b m : Int) (w : World) : Calls Tryz.prog 32 #[.agg #[.int .i64 b, .int .i64 m]] w fun e w' => e = .returned (.bool (fineB b m)) ∧ Below w.heap.size w w' := by
 have HB := Lib.hid ((Below.refl w.heap.size w).alloc (Nat.le_refl _) (.cells #[.int .i64 b, .int .i64 m] 54))
 by_cases h0 : 0 ≤ b
 ·
  have t0 : decide (b ≥ 0) = true := decide_eq_true (by omega)
  by_cases h1 : b ≤ 1000
  ·
   have t1 : decide (b ≤ 1000) = true := decide_eq_true (by omega)
   by_cases h2 : 0 ≤ m
   ·
    have t2 : decide (m ≥ 0) = true := decide_eq_true (by omega)
    by_cases h3 : m ≤ 100000
    ·
     have t3 : decide (m ≤ 100000) = true := decide_eq_true (by omega)
     rw [show fineB b m = true from decide_eq_true (by omega)]
     clear h0 h1 h2 h3
     go_enter Tryz.func32, Tryz.ntmps32
     go_wp2_with fail
     go_ret
     exact ⟨rfl, HB.out⟩
    ·
     have t3 : decide (m ≤ 100000) = false := decide_eq_false (by omega)
     rw [show fineB b m = false from decide_eq_false (by omega)]
     clear h0 h1 h2 h3
     go_enter Tryz.func32, Tryz.ntmps32
     go_wp2_with fail
     go_ret
     exact ⟨rfl, HB.out⟩
   ·
    have t2 : decide (m ≥ 0) = false := decide_eq_false (by omega)
    rw [show fineB b m = false from decide_eq_false (by omega)]
    clear h0 h1 h2
    go_enter Tryz.func32, Tryz.ntmps32
    go_wp2_with fail
    go_ret
    exact ⟨rfl, HB.out⟩
  ·
   have t1 : decide (b ≤ 1000) = false := decide_eq_false (by omega)
   rw [show fineB b m = false from decide_eq_false (by omega)]
   clear h0 h1
   go_enter Tryz.func32, Tryz.ntmps32
   go_wp2_with fail
   go_ret
   exact ⟨rfl, HB.out⟩
 ·
  have t0 : decide (b ≥ 0) = false := decide_eq_false (by omega)
  rw [show fineB b m = false from decide_eq_false (by omega)]
  clear h0
  go_enter Tryz.func32, Tryz.ntmps32
  go_wp2_with fail
  go_ret
  exact ⟨rfl, HB.out⟩
set_option maxHeartbeats 3200000 in
theorem rfine_any (b m : Int) (w : World) : Calls Tryz.prog 33 #[.agg #[.int .i64 b, .int .i64 m]] w fun e w' => e = .returned (.bool (fineB b m)) ∧ Below w.heap.size w w' := by
 have HB := Lib.hid ((Below.refl w.heap.size w).alloc (Nat.le_refl _) (.cells #[.int .i64 b, .int .i64 m] 54))
 by_cases h0 : 0 ≤ b
 ·
  have t0 : decide (b ≥ 0) = true := decide_eq_true (by omega)
  by_cases h1 : b ≤ 1000
  ·
   have t1 : decide (b ≤ 1000) = true := decide_eq_true (by omega)
   by_cases h2 : 0 ≤ m
   ·
    have t2 : decide (m ≥ 0) = true := decide_eq_true (by omega)
    by_cases h3 : m ≤ 100000
    ·
     have t3 : decide (m ≤ 100000) = true := decide_eq_true (by omega)
     rw [show fineB b m = true from decide_eq_true (by omega)]
     clear h0 h1 h2 h3
     go_enter Tryz.func33, Tryz.ntmps33
     go_wp2_with fail
     go_ret
     exact ⟨rfl, HB.out⟩
    ·
     have t3 : decide (m ≤ 100000) = false := decide_eq_false (by omega)
     rw [show fineB b m = false from decide_eq_false (by omega)]
     clear h0 h1 h2 h3
     go_enter Tryz.func33, Tryz.ntmps33
     go_wp2_with fail
     go_ret
     exact ⟨rfl, HB.out⟩
   ·
    have t2 : decide (m ≥ 0) = false := decide_eq_false (by omega)
    rw [show fineB b m = false from decide_eq_false (by omega)]
    clear h0 h1 h2
    go_enter Tryz.func33, Tryz.ntmps33
    go_wp2_with fail
    go_ret
    exact ⟨rfl, HB.out⟩
  ·
   have t1 : decide (b ≤ 1000) = false := decide_eq_false (by omega)
   rw [show fineB b m = false from decide_eq_false (by omega)]
   clear h0 h1
   go_enter Tryz.func33, Tryz.ntmps33
   go_wp2_with fail
   go_ret
   exact ⟨rfl, HB.out⟩
 ·
  have t0 : decide (b ≥ 0) = false := decide_eq_false (by omega)
  rw [show fineB b m = false from decide_eq_false (by omega)]
  clear h0
  go_enter Tryz.func33, Tryz.ntmps33
  go_wp2_with fail
  go_ret
  exact ⟨rfl, HB.out⟩
set_option maxHeartbeats 3200000 in
theorem pfmt_any (f : Int) (w : World) : Calls Tryz.prog 36 #[.int .i64 f] w fun e w' => e = .returned (.bool (fmtB f)) ∧ w = w' := by
 by_cases h0 : 1 ≤ f
 ·
  have t0 : decide (f ≥ 1) = true := decide_eq_true (by omega)
  by_cases h1 : f ≤ 5
  ·
   have t1 : decide (f ≤ 5) = true := decide_eq_true (by omega)
   rw [show fmtB f = true from decide_eq_true (by omega)]
   clear h0 h1
   go_enter Tryz.func36, Tryz.ntmps36
   go_wp2_with fail
   go_ret
   exact ⟨rfl, rfl⟩
  ·
   have t1 : decide (f ≤ 5) = false := decide_eq_false (by omega)
   rw [show fmtB f = false from decide_eq_false (by omega)]
   clear h0 h1
   go_enter Tryz.func36, Tryz.ntmps36
   go_wp2_with fail
   go_ret
   exact ⟨rfl, rfl⟩
 ·
  have t0 : decide (f ≥ 1) = false := decide_eq_false (by omega)
  rw [show fmtB f = false from decide_eq_false (by omega)]
  clear h0
  go_enter Tryz.func36, Tryz.ntmps36
  go_wp2_with fail
  go_ret
  exact ⟨rfl, rfl⟩
set_option maxHeartbeats 3200000 in
theorem rfmt_any (f : Int) (w : World) : Calls Tryz.prog 37 #[.int .i64 f] w fun e w' => e = .returned (.bool (fmtB f)) ∧ w = w' := by
 by_cases h0 : 1 ≤ f
 ·
  have t0 : decide (f ≥ 1) = true := decide_eq_true (by omega)
  by_cases h1 : f ≤ 5
  ·
   have t1 : decide (f ≤ 5) = true := decide_eq_true (by omega)
   rw [show fmtB f = true from decide_eq_true (by omega)]
   clear h0 h1
   go_enter Tryz.func37, Tryz.ntmps37
   go_wp2_with fail
   go_ret
   exact ⟨rfl, rfl⟩
  ·
   have t1 : decide (f ≤ 5) = false := decide_eq_false (by omega)
   rw [show fmtB f = false from decide_eq_false (by omega)]
   clear h0 h1
   go_enter Tryz.func37, Tryz.ntmps37
   go_wp2_with fail
   go_ret
   exact ⟨rfl, rfl⟩
 ·
  have t0 : decide (f ≥ 1) = false := decide_eq_false (by omega)
  rw [show fmtB f = false from decide_eq_false (by omega)]
  clear h0
  go_enter Tryz.func37, Tryz.ntmps37
  go_wp2_with fail
  go_ret
  exact ⟨rfl, rfl⟩
set_option maxHeartbeats 3200000 in
theorem pright_any (A : Option Addr) (c n : Nat) (s : ByteArray) (q : List Nd) (w : World) (hs : s.size ≤ maxLen) (h : Ns w A c q) (hn : q.length = n) (hn9 : n ≤ 1000000) :
  Calls Tryz.prog 30 #[.agg #[.string s, .slice A n c]] w fun e w' => e = .returned (.bool (mayP s q)) ∧ Below w.heap.size w w' := by
 have hcap := h.cap
 rw [hn] at hcap
 have hb := (Below.refl w.heap.size w).alloc (Nat.le_refl _) (.cells #[.string s, .slice A n c] 52)
 have HB := Lib.hid hb
 have HN := Lib.hid (h.below hb)
 have HL := Lib.hid hn
 have HS := Lib.hid hs
 cases hr : ruleB s.data.toList with
 | false =>
  rw [show mayP s q = false by unfold mayP; rw [hr]; rfl]
  have HR := Lib.hid hr
  clear h hb hn hs hr
  go_enter Tryz.func30, Tryz.ntmps30
  go_wp2_with (go_at_call 70; go_loud (refine (rule_any s _ HS.out).mono ?_; rintro e w1 ⟨rfl, rfl⟩; rw [HR.out]))
  go_ret
  exact ⟨rfl, HB.out⟩
 | true =>
  obtain ⟨R, hR⟩ : ∃ R, R = quadB q := ⟨_, rfl⟩
  rw [show mayP s q = R by unfold mayP; rw [hr, hR]; rfl]
  have HR := Lib.hid hr
  have HQ := Lib.hid hR
  clear h hb hn hs hr hR
  go_enter Tryz.func30, Tryz.ntmps30
  go_wp2_with (first
   | (go_at_call 70; go_loud (refine (rule_any s _ HS.out).mono ?_; rintro e w1 ⟨rfl, rfl⟩; rw [HR.out]))
   | (go_at_call 71; go_loud (refine (nright_any A c n q _ HN.out HL.out hn9).mono ?_; rintro e w2 ⟨rfl, b_⟩; rw [← HQ.out]; have HB := Lib.hid (HB.out.trans (b_.mono HB.out.size)); clear b_)))
  go_ret
  exact ⟨rfl, HB.out⟩
set_option maxHeartbeats 3200000 in
theorem rpright_any (A : Option Addr) (c n : Nat) (s : ByteArray) (q : List Nd) (w : World) (hs : s.size ≤ maxLen) (h : Ns w A c q) (hn : q.length = n) (hn9 : n ≤ 1000000) :
  Calls Tryz.prog 31 #[.agg #[.string s, .slice A n c]] w fun e w' => e = .returned (.bool (mayP s q)) ∧ Below w.heap.size w w' := by
 have hcap := h.cap
 rw [hn] at hcap
 have hb := (Below.refl w.heap.size w).alloc (Nat.le_refl _) (.cells #[.string s, .slice A n c] 52)
 have HB := Lib.hid hb
 have HN := Lib.hid (h.below hb)
 have HL := Lib.hid hn
 have HS := Lib.hid hs
 cases hr : ruleB s.data.toList with
 | false =>
  rw [show mayP s q = false by unfold mayP; rw [hr]; rfl]
  have HR := Lib.hid hr
  clear h hb hn hs hr
  go_enter Tryz.func31, Tryz.ntmps31
  go_wp2_with (go_at_call 72; go_loud (refine (rrule_any s _ HS.out).mono ?_; rintro e w1 ⟨rfl, rfl⟩; rw [HR.out]))
  go_ret
  exact ⟨rfl, HB.out⟩
 | true =>
  obtain ⟨R, hR⟩ : ∃ R, R = quadB q := ⟨_, rfl⟩
  rw [show mayP s q = R by unfold mayP; rw [hr, hR]; rfl]
  have HR := Lib.hid hr
  have HQ := Lib.hid hR
  clear h hb hn hs hr hR
  go_enter Tryz.func31, Tryz.ntmps31
  go_wp2_with (first
   | (go_at_call 72; go_loud (refine (rrule_any s _ HS.out).mono ?_; rintro e w1 ⟨rfl, rfl⟩; rw [HR.out]))
   | (go_at_call 73; go_loud (refine (nrright_any A c n q _ HN.out HL.out hn9).mono ?_; rintro e w2 ⟨rfl, b_⟩; rw [← HQ.out]; have HB := Lib.hid (HB.out.trans (b_.mono HB.out.size)); clear b_)))
  go_ret
  exact ⟨rfl, HB.out⟩
set_option maxHeartbeats 3200000 in
theorem psame_any (A B : Option Addr) (c d n p : Nat) (s t : ByteArray) (q r : List Nd) (w : World) (h : Ns w A c q) (k : Ns w B d r) (hn : q.length = n) (hp : r.length = p) :
  Calls Tryz.prog 34 #[.agg #[.string s, .slice A n c], .agg #[.string t, .slice B p d]] w fun e w' => e = .returned (.bool (decide (s = t) && decide (q = r))) ∧ Below w.heap.size w w' := by
 have hcl := h.cap
 have hcm := k.cap
 rw [hn] at hcl
 rw [hp] at hcm
 have hb := ((Below.refl w.heap.size w).alloc (Nat.le_refl _) (.cells #[.string s, .slice A n c] 52)).alloc (by simp) (.cells #[.string t, .slice B p d] 52)
 have HB := Lib.hid hb
 have HN := Lib.hid (h.below hb)
 have HK := Lib.hid (k.below hb)
 have HL := Lib.hid hn
 have HP := Lib.hid hp
 clear h k hb hn hp
 by_cases e : s = t
 ·
  have t1 : (s.toList == t.toList) = true := by rw [e]; exact beq_self_eq_true _
  have t2 : decide (s = t) = true := decide_eq_true e
  obtain ⟨R, hR⟩ : ∃ R, R = decide (q = r) := ⟨_, rfl⟩
  rw [show (decide (s = t) && decide (q = r)) = R by rw [t2, hR]; rfl]
  have HR := Lib.hid hR
  clear e hR
  go_enter Tryz.func34, Tryz.ntmps34
  go_wp2_with (go_at_call 74; go_loud (refine (nsame_any A B c d n p q r _ HN.out HK.out HL.out HP.out).mono ?_; rintro e w2 ⟨rfl, b_⟩; rw [← HR.out]; have HB := Lib.hid (HB.out.trans (b_.mono HB.out.size)); clear b_))
  go_ret
  exact ⟨rfl, HB.out⟩
 ·
  have t1 : (s.toList == t.toList) = false := beq_eq_false_iff_ne.2 (fun h => e (bytes_same h))
  have t2 : decide (s = t) = false := decide_eq_false e
  rw [show (decide (s = t) && decide (q = r)) = false by rw [t2]; rfl]
  clear e
  go_enter Tryz.func34, Tryz.ntmps34
  go_wp2_with fail
  go_ret
  exact ⟨rfl, HB.out⟩
set_option maxHeartbeats 3200000 in
theorem rpsame_any (A B : Option Addr) (c d n p : Nat) (s t : ByteArray) (q r : List Nd) (w : World) (h : Ns w A c q) (k : Ns w B d r) (hn : q.length = n) (hp : r.length = p) :
  Calls Tryz.prog 35 #[.agg #[.string s, .slice A n c], .agg #[.string t, .slice B p d]] w fun e w' => e = .returned (.bool (decide (s = t) && decide (q = r))) ∧ Below w.heap.size w w' := by
 have hcl := h.cap
 have hcm := k.cap
 rw [hn] at hcl
 rw [hp] at hcm
 have hb := ((Below.refl w.heap.size w).alloc (Nat.le_refl _) (.cells #[.string s, .slice A n c] 52)).alloc (by simp) (.cells #[.string t, .slice B p d] 52)
 have HB := Lib.hid hb
 have HN := Lib.hid (h.below hb)
 have HK := Lib.hid (k.below hb)
 have HL := Lib.hid hn
 have HP := Lib.hid hp
 clear h k hb hn hp
 by_cases e : s = t
 ·
  have t1 : (s.toList == t.toList) = true := by rw [e]; exact beq_self_eq_true _
  have t2 : decide (s = t) = true := decide_eq_true e
  obtain ⟨R, hR⟩ : ∃ R, R = decide (q = r) := ⟨_, rfl⟩
  rw [show (decide (s = t) && decide (q = r)) = R by rw [t2, hR]; rfl]
  have HR := Lib.hid hR
  clear e hR
  go_enter Tryz.func35, Tryz.ntmps35
  go_wp2_with (go_at_call 18; go_loud (refine (rsame_any A B c d n p q r _ HN.out HK.out HL.out HP.out).mono ?_; rintro e w2 ⟨rfl, b_⟩; rw [← HR.out]; have HB := Lib.hid (HB.out.trans (b_.mono HB.out.size)); clear b_))
  go_ret
  exact ⟨rfl, HB.out⟩
 ·
  have t1 : (s.toList == t.toList) = false := beq_eq_false_iff_ne.2 (fun h => e (bytes_same h))
  have t2 : decide (s = t) = false := decide_eq_false e
  rw [show (decide (s = t) && decide (q = r)) = false by rw [t2]; rfl]
  clear e
  go_enter Tryz.func35, Tryz.ntmps35
  go_wp2_with fail
  go_ret
  exact ⟨rfl, HB.out⟩
set_option maxHeartbeats 3200000 in
theorem pexpress_any (A : Option Addr) (c n : Nat) (s : ByteArray) (q : List Nd) (f box nodes : Int) (w : World) (h : Ns w A c q) (hn : q.length = n) (hn9 : n ≤ 900000) (hg : GoodL q) (hf : 1 ≤ f ∧ f ≤ 5) (hm : -9223372036854775808 ≤ box ∧ box ≤ 9223372036854775807) :
  Calls Tryz.prog 41 #[.int .i64 f, .agg #[.string s, .slice A n c], .agg #[.int .i64 box, .int .i64 nodes]] w (RetEx f q n box w) := by
 have hcap := h.cap
 rw [hn] at hcap
 have PP := Lib.hid (Pa.start (n := n) h s box nodes)
 obtain ⟨c0, c1, c2, c3⟩ := PP.out.cells
 have HL := Lib.hid hn
 have HG := Lib.hid hg
 obtain ⟨M, hM⟩ : ∃ M, M = mostF q % 256 := ⟨_, rfl⟩
 have HM := Lib.hid hM
 have e5 : ∀ g : Int, g ≠ 5 → g ≠ 4 → (ExpP g q n box ↔ WinP q n box ∧ M ≤ 1) := fun g h5 h4 => by
  rw [hM]
  unfold ExpP
  exact ⟨fun h => (h.resolve_left h5).imp_right fun h => h.resolve_left h4, fun h => .inr (h.imp_right .inr)⟩
 have e4 : ExpP 4 q n box ↔ WinP q n box := ⟨fun h => (h.resolve_left (by omega)).1, fun h => .inr ⟨h, .inl rfl⟩⟩
 have E5 := Lib.hid e5
 have E4 := Lib.hid e4
 clear h hn hg hM e5 e4
 by_cases h1 : M ≤ 1
 ·
  have t1 : decide (M > 1) = false := decide_eq_false (by omega)
  have H1 := Lib.hid h1
  clear h1
  rcases (show f = 1 ∨ f = 2 ∨ f = 3 ∨ f = 4 ∨ f = 5 by omega) with rfl | rfl | rfl | rfl | rfl
  ·
   clear hf
   go_enter Tryz.func41, Tryz.ntmps41
   go_wp2_with (first
    | (go_at_call 75; go_loud (refine (most_lk A c n q _ PP.out.ns HL.out).mono ?_; rintro e w1 ⟨rfl, b_⟩; rw [← HM.out]; have PP := Lib.hid (PP.out.next b_); clear c0 c1 c2 c3; obtain ⟨c0, c1, c2, c3⟩ := PP.out.cells; clear b_))
    | (go_at_call 46; go_loud (refine (boxin_any n c A q box _ PP.out.ns HL.out hn9 HG.out hm).mono ?_; rintro e w2 ⟨X, Y, V, H, ok, rfl, bv, b_⟩; have EV := Lib.hid (show ∃ (X Y V H : Int) (ok : Bool), BxV q n ok X Y V H from ⟨X, Y, V, H, ok, bv⟩); have BV := Lib.hid (win_of (most := box) bv); obtain ⟨R, hR⟩ : ∃ R, R = (decide (V ≤ box) && decide (H ≤ box)) := ⟨_, rfl⟩; rw [← hR] at BV ⊢; have PP := Lib.hid (PP.out.next b_); clear c0 c1 c2 c3; obtain ⟨c0, c1, c2, c3⟩ := PP.out.cells; clear b_ bv hR)))
   go_ret
   exact ⟨R, rfl, BV.out.trans ((E5.out _ (by omega) (by omega)).trans ⟨fun h => h.1, fun h => ⟨h, H1.out⟩⟩).symm, fun h => absurd h (by omega), PP.out.b⟩
  ·
   clear hf
   go_enter Tryz.func41, Tryz.ntmps41
   go_wp2_with (first
    | (go_at_call 75; go_loud (refine (most_lk A c n q _ PP.out.ns HL.out).mono ?_; rintro e w1 ⟨rfl, b_⟩; rw [← HM.out]; have PP := Lib.hid (PP.out.next b_); clear c0 c1 c2 c3; obtain ⟨c0, c1, c2, c3⟩ := PP.out.cells; clear b_))
    | (go_at_call 46; go_loud (refine (boxin_any n c A q box _ PP.out.ns HL.out hn9 HG.out hm).mono ?_; rintro e w2 ⟨X, Y, V, H, ok, rfl, bv, b_⟩; have EV := Lib.hid (show ∃ (X Y V H : Int) (ok : Bool), BxV q n ok X Y V H from ⟨X, Y, V, H, ok, bv⟩); have BV := Lib.hid (win_of (most := box) bv); obtain ⟨R, hR⟩ : ∃ R, R = (decide (V ≤ box) && decide (H ≤ box)) := ⟨_, rfl⟩; rw [← hR] at BV ⊢; have PP := Lib.hid (PP.out.next b_); clear c0 c1 c2 c3; obtain ⟨c0, c1, c2, c3⟩ := PP.out.cells; clear b_ bv hR)))
   go_ret
   exact ⟨R, rfl, BV.out.trans ((E5.out _ (by omega) (by omega)).trans ⟨fun h => h.1, fun h => ⟨h, H1.out⟩⟩).symm, fun h => absurd h (by omega), PP.out.b⟩
  ·
   clear hf
   go_enter Tryz.func41, Tryz.ntmps41
   go_wp2_with (first
    | (go_at_call 75; go_loud (refine (most_lk A c n q _ PP.out.ns HL.out).mono ?_; rintro e w1 ⟨rfl, b_⟩; rw [← HM.out]; have PP := Lib.hid (PP.out.next b_); clear c0 c1 c2 c3; obtain ⟨c0, c1, c2, c3⟩ := PP.out.cells; clear b_))
    | (go_at_call 46; go_loud (refine (boxin_any n c A q box _ PP.out.ns HL.out hn9 HG.out hm).mono ?_; rintro e w2 ⟨X, Y, V, H, ok, rfl, bv, b_⟩; have EV := Lib.hid (show ∃ (X Y V H : Int) (ok : Bool), BxV q n ok X Y V H from ⟨X, Y, V, H, ok, bv⟩); have BV := Lib.hid (win_of (most := box) bv); obtain ⟨R, hR⟩ : ∃ R, R = (decide (V ≤ box) && decide (H ≤ box)) := ⟨_, rfl⟩; rw [← hR] at BV ⊢; have PP := Lib.hid (PP.out.next b_); clear c0 c1 c2 c3; obtain ⟨c0, c1, c2, c3⟩ := PP.out.cells; clear b_ bv hR)))
   go_ret
   exact ⟨R, rfl, BV.out.trans ((E5.out _ (by omega) (by omega)).trans ⟨fun h => h.1, fun h => ⟨h, H1.out⟩⟩).symm, fun h => absurd h (by omega), PP.out.b⟩
  ·
   clear hf
   go_enter Tryz.func41, Tryz.ntmps41
   go_wp2_with (go_at_call 46; go_loud (refine (boxin_any n c A q box _ PP.out.ns HL.out hn9 HG.out hm).mono ?_; rintro e w2 ⟨X, Y, V, H, ok, rfl, bv, b_⟩; have EV := Lib.hid (show ∃ (X Y V H : Int) (ok : Bool), BxV q n ok X Y V H from ⟨X, Y, V, H, ok, bv⟩); have BV := Lib.hid (win_of (most := box) bv); obtain ⟨R, hR⟩ : ∃ R, R = (decide (V ≤ box) && decide (H ≤ box)) := ⟨_, rfl⟩; rw [← hR] at BV ⊢; have PP := Lib.hid (PP.out.next b_); clear c0 c1 c2 c3; obtain ⟨c0, c1, c2, c3⟩ := PP.out.cells; clear b_ bv hR))
   go_ret
   exact ⟨R, rfl, BV.out.trans E4.out.symm, fun _ => EV.out, PP.out.b⟩
  ·
   clear hf
   go_enter Tryz.func41, Tryz.ntmps41
   go_wp2_with fail
   go_ret
   exact ⟨true, rfl, ⟨fun _ => .inl rfl, fun _ => rfl⟩, fun h => absurd h (by omega), PP.out.b⟩
 ·
  have t1 : decide (M > 1) = true := decide_eq_true (by omega)
  have H1 := Lib.hid h1
  clear h1
  rcases (show f = 1 ∨ f = 2 ∨ f = 3 ∨ f = 4 ∨ f = 5 by omega) with rfl | rfl | rfl | rfl | rfl
  ·
   clear hf
   go_enter Tryz.func41, Tryz.ntmps41
   go_wp2_with (go_at_call 75; go_loud (refine (most_lk A c n q _ PP.out.ns HL.out).mono ?_; rintro e w1 ⟨rfl, b_⟩; rw [← HM.out]; have PP := Lib.hid (PP.out.next b_); clear c0 c1 c2 c3; obtain ⟨c0, c1, c2, c3⟩ := PP.out.cells; clear b_))
   go_ret
   exact ⟨false, rfl, ⟨fun h => by (cases h), fun h => absurd ((E5.out _ (by omega) (by omega)).1 h).2 (by have := H1.out; omega)⟩, fun h => absurd h (by omega), PP.out.b⟩
  ·
   clear hf
   go_enter Tryz.func41, Tryz.ntmps41
   go_wp2_with (go_at_call 75; go_loud (refine (most_lk A c n q _ PP.out.ns HL.out).mono ?_; rintro e w1 ⟨rfl, b_⟩; rw [← HM.out]; have PP := Lib.hid (PP.out.next b_); clear c0 c1 c2 c3; obtain ⟨c0, c1, c2, c3⟩ := PP.out.cells; clear b_))
   go_ret
   exact ⟨false, rfl, ⟨fun h => by (cases h), fun h => absurd ((E5.out _ (by omega) (by omega)).1 h).2 (by have := H1.out; omega)⟩, fun h => absurd h (by omega), PP.out.b⟩
  ·
   clear hf
   go_enter Tryz.func41, Tryz.ntmps41
   go_wp2_with (go_at_call 75; go_loud (refine (most_lk A c n q _ PP.out.ns HL.out).mono ?_; rintro e w1 ⟨rfl, b_⟩; rw [← HM.out]; have PP := Lib.hid (PP.out.next b_); clear c0 c1 c2 c3; obtain ⟨c0, c1, c2, c3⟩ := PP.out.cells; clear b_))
   go_ret
   exact ⟨false, rfl, ⟨fun h => by (cases h), fun h => absurd ((E5.out _ (by omega) (by omega)).1 h).2 (by have := H1.out; omega)⟩, fun h => absurd h (by omega), PP.out.b⟩
  ·
   clear hf
   go_enter Tryz.func41, Tryz.ntmps41
   go_wp2_with (go_at_call 46; go_loud (refine (boxin_any n c A q box _ PP.out.ns HL.out hn9 HG.out hm).mono ?_; rintro e w2 ⟨X, Y, V, H, ok, rfl, bv, b_⟩; have EV := Lib.hid (show ∃ (X Y V H : Int) (ok : Bool), BxV q n ok X Y V H from ⟨X, Y, V, H, ok, bv⟩); have BV := Lib.hid (win_of (most := box) bv); obtain ⟨R, hR⟩ : ∃ R, R = (decide (V ≤ box) && decide (H ≤ box)) := ⟨_, rfl⟩; rw [← hR] at BV ⊢; have PP := Lib.hid (PP.out.next b_); clear c0 c1 c2 c3; obtain ⟨c0, c1, c2, c3⟩ := PP.out.cells; clear b_ bv hR))
   go_ret
   exact ⟨R, rfl, BV.out.trans E4.out.symm, fun _ => EV.out, PP.out.b⟩
  ·
   clear hf
   go_enter Tryz.func41, Tryz.ntmps41
   go_wp2_with fail
   go_ret
   exact ⟨true, rfl, ⟨fun _ => .inl rfl, fun _ => rfl⟩, fun h => absurd h (by omega), PP.out.b⟩
set_option maxHeartbeats 3200000 in
theorem rexpress_any (A : Option Addr) (c n : Nat) (s : ByteArray) (q : List Nd) (f box nodes : Int) (w : World) (h : Ns w A c q) (hn : q.length = n) (hn9 : n ≤ 900000) (hg : GoodL q) (hf : 1 ≤ f ∧ f ≤ 5) (hm : -9223372036854775808 ≤ box ∧ box ≤ 9223372036854775807) :
  Calls Tryz.prog 42 #[.int .i64 f, .agg #[.string s, .slice A n c], .agg #[.int .i64 box, .int .i64 nodes]] w (RetEx f q n box w) := by
 have hcap := h.cap
 rw [hn] at hcap
 have PP := Lib.hid (Pa.start (n := n) h s box nodes)
 obtain ⟨c0, c1, c2, c3⟩ := PP.out.cells
 have HL := Lib.hid hn
 have HG := Lib.hid hg
 obtain ⟨M, hM⟩ : ∃ M, M = mostF q % 256 := ⟨_, rfl⟩
 have HM := Lib.hid hM
 have e5 : ∀ g : Int, g ≠ 5 → g ≠ 4 → (ExpP g q n box ↔ WinP q n box ∧ M ≤ 1) := fun g h5 h4 => by
  rw [hM]
  unfold ExpP
  exact ⟨fun h => (h.resolve_left h5).imp_right fun h => h.resolve_left h4, fun h => .inr (h.imp_right .inr)⟩
 have e4 : ExpP 4 q n box ↔ WinP q n box := ⟨fun h => (h.resolve_left (by omega)).1, fun h => .inr ⟨h, .inl rfl⟩⟩
 have E5 := Lib.hid e5
 have E4 := Lib.hid e4
 clear h hn hg hM e5 e4
 by_cases h5 : f = 5
 ·
  subst h5
  clear hf
  go_enter Tryz.func42, Tryz.ntmps42
  go_wp2_with fail
  go_ret
  exact ⟨true, rfl, ⟨fun _ => .inl rfl, fun _ => rfl⟩, fun h => absurd h (by omega), PP.out.b⟩
 ·
  have t5 : (f == 5) = false := beq_eq_false_iff_ne.2 h5
  have H5 := Lib.hid h5
  by_cases h4 : f = 4
  ·
   have t4 : (f == 4) = true := beq_iff_eq.2 h4
   have H4 := Lib.hid h4
   clear h4 h5 hf
   go_enter Tryz.func42, Tryz.ntmps42
   go_upto_if 14 with (go_at_call 49; go_loud (refine (rboxin_any n c A q box _ PP.out.ns HL.out hn9 HG.out hm).mono ?_; rintro e w2 ⟨X, Y, V, H, ok, rfl, bv, b_⟩; have EV := Lib.hid (show ∃ (X Y V H : Int) (ok : Bool), BxV q n ok X Y V H from ⟨X, Y, V, H, ok, bv⟩); have BV := Lib.hid (win_of (most := box) bv); obtain ⟨R, hR⟩ : ∃ R, R = (decide (V ≤ box) && decide (H ≤ box)) := ⟨_, rfl⟩; rw [← hR] at BV ⊢; have PP := Lib.hid (PP.out.next b_); clear c0 c1 c2 c3; obtain ⟨c0, c1, c2, c3⟩ := PP.out.cells; clear b_ bv hR))
   cases hR : R with
   | false =>
    subst hR
    go_wp2_with fail
    go_ret
    refine ⟨false, rfl, ⟨fun h => by (cases h), fun h => ?_⟩, fun _ => EV.out, PP.out.b⟩
    rw [H4.out] at h
    have := BV.out.2 (E4.out.1 h); cases this
   | true =>
    subst hR
    go_wp2_with fail
    go_ret
    refine ⟨true, rfl, ⟨fun _ => ?_, fun _ => rfl⟩, fun _ => EV.out, PP.out.b⟩
    rw [H4.out]
    exact E4.out.2 (BV.out.1 (by trivial))
  ·
   have t4 : (f == 4) = false := beq_eq_false_iff_ne.2 h4
   have H4 := Lib.hid h4
   clear h4 h5 hf
   go_enter Tryz.func42, Tryz.ntmps42
   go_upto_if 14 with (go_at_call 49; go_loud (refine (rboxin_any n c A q box _ PP.out.ns HL.out hn9 HG.out hm).mono ?_; rintro e w2 ⟨X, Y, V, H, ok, rfl, bv, b_⟩; have EV := Lib.hid (show ∃ (X Y V H : Int) (ok : Bool), BxV q n ok X Y V H from ⟨X, Y, V, H, ok, bv⟩); have BV := Lib.hid (win_of (most := box) bv); obtain ⟨R, hR⟩ : ∃ R, R = (decide (V ≤ box) && decide (H ≤ box)) := ⟨_, rfl⟩; rw [← hR] at BV ⊢; have PP := Lib.hid (PP.out.next b_); clear c0 c1 c2 c3; obtain ⟨c0, c1, c2, c3⟩ := PP.out.cells; clear b_ bv hR))
   cases hR : R with
   | false =>
    subst hR
    go_wp2_with fail
    go_ret
    exact ⟨false, rfl, ⟨fun h => by (cases h), fun h => by (have := BV.out.2 ((E5.out _ H5.out H4.out).1 h).1; cases this)⟩, fun _ => EV.out, PP.out.b⟩
   | true =>
    subst hR
    go_wp2_with (go_at_call 76; go_loud (refine (rmost_lk A c n q _ PP.out.ns HL.out).mono ?_; rintro e w1 ⟨rfl, b_⟩; rw [← HM.out]; have PP := Lib.hid (PP.out.next b_); clear c0 c1 c2 c3; obtain ⟨c0, c1, c2, c3⟩ := PP.out.cells; clear b_))
    go_ret
    exact ⟨decide (M ≤ 1), rfl, decide_eq_true_iff.trans ((E5.out _ H5.out H4.out).trans ⟨fun h => h.2, fun h => ⟨BV.out.1 (by trivial), h⟩⟩).symm, fun _ => EV.out, PP.out.b⟩
set_option maxHeartbeats 3200000 in
theorem pcheck_any (A : Option Addr) (c n : Nat) (s : ByteArray) (q : List Nd) (f box nodes : Int) (w : World) (hs : s.size ≤ maxLen) (h : Ns w A c q) (hn : q.length = n) (hn9 : n ≤ 900000) (hm : -9223372036854775808 ≤ box ∧ box ≤ 9223372036854775807) :
  Calls Tryz.prog 38 #[.int .i64 f, .agg #[.string s, .slice A n c], .agg #[.int .i64 box, .int .i64 nodes]] w (RetCk f s q n box nodes w) := by
 have hcap := h.cap
 rw [hn] at hcap
 have PP := Lib.hid (Pa.start (n := n) h s box nodes)
 obtain ⟨c0, c1, c2, c3⟩ := PP.out.cells
 have HL := Lib.hid hn
 have HS := Lib.hid hs
 clear h hn hs
 cases hf : fmtB f with
 | false =>
  have HF := Lib.hid hf
  clear hf
  go_enter Tryz.func38, Tryz.ntmps38
  go_wp2_with (go_at_call 36; go_loud (refine (pfmt_any f _).mono ?_; rintro e w1 ⟨rfl, rfl⟩; rw [HF.out]))
  go_ret
  exact ⟨1, rfl, ⟨fun _ => rfl, fun h => by (rw [HF.out] at h; cases h)⟩, PP.out.b⟩
 | true =>
  have HF := Lib.hid hf
  have H5 := Lib.hid (of_decide_eq_true hf)
  clear hf
  cases hp : mayP s q with
  | false =>
   have HP := Lib.hid hp
   clear hp
   go_enter Tryz.func38, Tryz.ntmps38
   go_wp2_with (first
    | (go_at_call 36; go_loud (refine (pfmt_any f _).mono ?_; rintro e w1 ⟨rfl, rfl⟩; rw [HF.out]))
    | (go_at_call 30; go_loud (refine (pright_any A c n s q _ HS.out PP.out.ns HL.out (by omega)).mono ?_; rintro e w2 ⟨rfl, b_⟩; rw [HP.out]; have PP := Lib.hid (PP.out.next b_); clear c0 c1 c2 c3; obtain ⟨c0, c1, c2, c3⟩ := PP.out.cells; clear b_)))
   go_ret
   exact ⟨1, rfl, ⟨fun _ => rfl, fun h => by (rw [HF.out, HP.out] at h; cases h)⟩, PP.out.b⟩
  | true =>
   have HP := Lib.hid hp
   have HG := Lib.hid (quad_goodL (q := q) (by unfold mayP at hp; rw [Bool.and_eq_true] at hp; exact hp.2))
   clear hp
   cases hi : fineB box nodes with
   | false =>
    have HI := Lib.hid hi
    clear hi
    go_enter Tryz.func38, Tryz.ntmps38
    go_wp2_with (first
     | (go_at_call 36; go_loud (refine (pfmt_any f _).mono ?_; rintro e w1 ⟨rfl, rfl⟩; rw [HF.out]))
     | (go_at_call 30; go_loud (refine (pright_any A c n s q _ HS.out PP.out.ns HL.out (by omega)).mono ?_; rintro e w2 ⟨rfl, b_⟩; rw [HP.out]; have PP := Lib.hid (PP.out.next b_); clear c0 c1 c2 c3; obtain ⟨c0, c1, c2, c3⟩ := PP.out.cells; clear b_))
     | (go_at_call 32; go_loud (refine (pfine_any box nodes _).mono ?_; rintro e w3 ⟨rfl, b_⟩; rw [HI.out]; have PP := Lib.hid (PP.out.next b_); clear c0 c1 c2 c3; obtain ⟨c0, c1, c2, c3⟩ := PP.out.cells; clear b_)))
    go_ret
    exact ⟨1, rfl, ⟨fun _ => rfl, fun h => by (rw [HF.out, HP.out, HI.out] at h; cases h)⟩, PP.out.b⟩
   | true =>
    have HI := Lib.hid hi
    clear hi
    go_enter Tryz.func38, Tryz.ntmps38
    go_upto_if 24 with (first
     | (go_at_call 36; go_loud (refine (pfmt_any f _).mono ?_; rintro e w1 ⟨rfl, rfl⟩; rw [HF.out]))
     | (go_at_call 30; go_loud (refine (pright_any A c n s q _ HS.out PP.out.ns HL.out (by omega)).mono ?_; rintro e w2 ⟨rfl, b_⟩; rw [HP.out]; have PP := Lib.hid (PP.out.next b_); clear c0 c1 c2 c3; obtain ⟨c0, c1, c2, c3⟩ := PP.out.cells; clear b_))
     | (go_at_call 32; go_loud (refine (pfine_any box nodes _).mono ?_; rintro e w3 ⟨rfl, b_⟩; rw [HI.out]; have PP := Lib.hid (PP.out.next b_); clear c0 c1 c2 c3; obtain ⟨c0, c1, c2, c3⟩ := PP.out.cells; clear b_))
     | (go_at_call 41; go_loud (refine (pexpress_any A c n s q f box nodes _ PP.out.ns HL.out hn9 HG.out H5.out hm).mono ?_; rintro e w4 ⟨R, rfl, hR, -, b_⟩; have HR := Lib.hid hR; have PP := Lib.hid (PP.out.next b_); clear c0 c1 c2 c3; obtain ⟨c0, c1, c2, c3⟩ := PP.out.cells; clear hR b_)))
    cases hR : R with
    | false =>
     subst hR
     go_wp2_with fail
     go_ret
     exact ⟨5, rfl, ⟨fun h => by (rw [HF.out, HP.out, HI.out] at h; cases h), fun _ => .inr ⟨rfl, fun h => by (have := HR.out.2 h; cases this)⟩⟩, PP.out.b⟩
    | true =>
     subst hR
     go_wp2_with fail
     go_ret
     exact ⟨0, rfl, ⟨fun h => by (rw [HF.out, HP.out, HI.out] at h; cases h), fun _ => .inl ⟨rfl, HR.out.1 (by trivial)⟩⟩, PP.out.b⟩
set_option maxHeartbeats 3200000 in
theorem rpcheck_any (A : Option Addr) (c n : Nat) (s : ByteArray) (q : List Nd) (f box nodes : Int) (w : World) (hs : s.size ≤ maxLen) (h : Ns w A c q) (hn : q.length = n) (hn9 : n ≤ 900000) (hm : -9223372036854775808 ≤ box ∧ box ≤ 9223372036854775807) :
  Calls Tryz.prog 39 #[.int .i64 f, .agg #[.string s, .slice A n c], .agg #[.int .i64 box, .int .i64 nodes]] w (RetCk f s q n box nodes w) := by
 have hcap := h.cap
 rw [hn] at hcap
 have PP := Lib.hid (Pa.start (n := n) h s box nodes)
 obtain ⟨c0, c1, c2, c3⟩ := PP.out.cells
 have HL := Lib.hid hn
 have HS := Lib.hid hs
 clear h hn hs
 cases hf : fmtB f with
 | false =>
  have HF := Lib.hid hf
  clear hf
  go_enter Tryz.func39, Tryz.ntmps39
  go_wp2_with (go_at_call 37; go_loud (refine (rfmt_any f _).mono ?_; rintro e w1 ⟨rfl, rfl⟩; rw [HF.out]))
  go_ret
  exact ⟨1, rfl, ⟨fun _ => rfl, fun h => by (rw [HF.out] at h; cases h)⟩, PP.out.b⟩
 | true =>
  have HF := Lib.hid hf
  have H5 := Lib.hid (of_decide_eq_true hf)
  clear hf
  cases hp : mayP s q with
  | false =>
   have HP := Lib.hid hp
   clear hp
   go_enter Tryz.func39, Tryz.ntmps39
   go_wp2_with (first
    | (go_at_call 37; go_loud (refine (rfmt_any f _).mono ?_; rintro e w1 ⟨rfl, rfl⟩; rw [HF.out]))
    | (go_at_call 31; go_loud (refine (rpright_any A c n s q _ HS.out PP.out.ns HL.out (by omega)).mono ?_; rintro e w2 ⟨rfl, b_⟩; rw [HP.out]; have PP := Lib.hid (PP.out.next b_); clear c0 c1 c2 c3; obtain ⟨c0, c1, c2, c3⟩ := PP.out.cells; clear b_)))
   go_ret
   exact ⟨1, rfl, ⟨fun _ => rfl, fun h => by (rw [HF.out, HP.out] at h; cases h)⟩, PP.out.b⟩
  | true =>
   have HP := Lib.hid hp
   have HG := Lib.hid (quad_goodL (q := q) (by unfold mayP at hp; rw [Bool.and_eq_true] at hp; exact hp.2))
   clear hp
   cases hi : fineB box nodes with
   | false =>
    have HI := Lib.hid hi
    clear hi
    go_enter Tryz.func39, Tryz.ntmps39
    go_wp2_with (first
     | (go_at_call 37; go_loud (refine (rfmt_any f _).mono ?_; rintro e w1 ⟨rfl, rfl⟩; rw [HF.out]))
     | (go_at_call 31; go_loud (refine (rpright_any A c n s q _ HS.out PP.out.ns HL.out (by omega)).mono ?_; rintro e w2 ⟨rfl, b_⟩; rw [HP.out]; have PP := Lib.hid (PP.out.next b_); clear c0 c1 c2 c3; obtain ⟨c0, c1, c2, c3⟩ := PP.out.cells; clear b_))
     | (go_at_call 33; go_loud (refine (rfine_any box nodes _).mono ?_; rintro e w3 ⟨rfl, b_⟩; rw [HI.out]; have PP := Lib.hid (PP.out.next b_); clear c0 c1 c2 c3; obtain ⟨c0, c1, c2, c3⟩ := PP.out.cells; clear b_)))
    go_ret
    exact ⟨1, rfl, ⟨fun _ => rfl, fun h => by (rw [HF.out, HP.out, HI.out] at h; cases h)⟩, PP.out.b⟩
   | true =>
    have HI := Lib.hid hi
    clear hi
    go_enter Tryz.func39, Tryz.ntmps39
    go_upto_if 24 with (first
     | (go_at_call 37; go_loud (refine (rfmt_any f _).mono ?_; rintro e w1 ⟨rfl, rfl⟩; rw [HF.out]))
     | (go_at_call 31; go_loud (refine (rpright_any A c n s q _ HS.out PP.out.ns HL.out (by omega)).mono ?_; rintro e w2 ⟨rfl, b_⟩; rw [HP.out]; have PP := Lib.hid (PP.out.next b_); clear c0 c1 c2 c3; obtain ⟨c0, c1, c2, c3⟩ := PP.out.cells; clear b_))
     | (go_at_call 33; go_loud (refine (rfine_any box nodes _).mono ?_; rintro e w3 ⟨rfl, b_⟩; rw [HI.out]; have PP := Lib.hid (PP.out.next b_); clear c0 c1 c2 c3; obtain ⟨c0, c1, c2, c3⟩ := PP.out.cells; clear b_))
     | (go_at_call 42; go_loud (refine (rexpress_any A c n s q f box nodes _ PP.out.ns HL.out hn9 HG.out H5.out hm).mono ?_; rintro e w4 ⟨R, rfl, hR, -, b_⟩; have HR := Lib.hid hR; have PP := Lib.hid (PP.out.next b_); clear c0 c1 c2 c3; obtain ⟨c0, c1, c2, c3⟩ := PP.out.cells; clear hR b_)))
    cases hR : R with
    | false =>
     subst hR
     go_wp2_with fail
     go_ret
     exact ⟨5, rfl, ⟨fun h => by (rw [HF.out, HP.out, HI.out] at h; cases h), fun _ => .inr ⟨rfl, fun h => by (have := HR.out.2 h; cases this)⟩⟩, PP.out.b⟩
    | true =>
     subst hR
     go_wp2_with fail
     go_ret
     exact ⟨0, rfl, ⟨fun h => by (rw [HF.out, HP.out, HI.out] at h; cases h), fun _ => .inl ⟨rfl, HR.out.1 (by trivial)⟩⟩, PP.out.b⟩
end Go.Proofs.YtajgfmfopkggdaaGreat

namespace Go.Proofs.YtajgfmfopkggdaaGreat
open Go.RowKit Num Nds Txt
theorem Ns.patb {w : World} {A A0 : Option Addr} {c n0 c0 g k : Nat} {l : List Nd} {u : Value} {s0 : ByteArray} {t : TypeId} (h : Ns w A c l) (hb : w.heap[g]? = some (.cells #[.string s0, .slice A0 n0 c0] t)) : Ns (w.setCell ⟨g, k, none⟩ u) A c l :=
 ⟨h.1, h.2.1, h.2.2.1, fun h0 => by
  obtain ⟨b, off, e, hlt, hc⟩ := h.2.2.2 h0
  have hne : b ≠ g := fun e2 => by
   subst e2
   have h1 := (hc 0 h0).1
   rw [cell_of_row w b _ _ _ (0, 0) hb] at h1
   rcases off with _ | _ | off
   ·
    simp at h1
   ·
    simp at h1
   ·
    simp at h1
  exact ⟨b, off, e, by simpa [World.setCell] using hlt, fun i hi => (hc i hi).below (Below.heap_setCell w ⟨g, k, none⟩ u b hne)⟩⟩
def RetPo (s : ByteArray) (l : List Cv) (most : Int) (w : World) (e : Ending) (w' : World) : Prop :=
 ∃ A' c' qn q ok, e = .returned (.tuple #[.agg #[.string s, .slice A' qn c'], .bool (ok && ruleB s.data.toList)]) ∧ q.length = qn ∧ Ns w' A' c' q ∧ (A' = none → c' = 0) ∧ Below w.heap.size w w' ∧ ok = mayB l most ∧ (ok = false → q = []) ∧ (ok = true → QuadOf (lastF (l.map Cv.cl)) q)
set_option maxHeartbeats 3200000 in
theorem rpof_any (A : Option Addr) (c n : Nat) (most : Int) (s : ByteArray) (l : List Cv) (w : World) (hs : s.size ≤ maxLen) (h : Cs w A c l) (hn : l.length = n) (hm : most ≤ 600) :
  Calls Tryz.prog 40 #[.string s, .slice A n c, .int .i64 most] w (RetPo s l most w) := by
 have hcap := h.cap
 rw [hn] at hcap
 have hb := (Below.refl w.heap.size w).alloc (Nat.le_refl _) (.cells #[.string ⟨#[]⟩, .slice none 0 0] 52)
 have hq := heap_alloc_new w (.cells #[.string ⟨#[]⟩, .slice none 0 0] 52)
 have HC := Lib.hid (h.below hb)
 have HN := Lib.hid hn
 have HB := Lib.hid hb
 have HQ := Lib.hid hq
 have HS := Lib.hid hs
 obtain ⟨R, hR⟩ : ∃ R, R = ruleB s.data.toList := ⟨_, rfl⟩
 have HR := Lib.hid hR
 have q0 : True := trivial
 clear h hn hb hq hs hR
 go_enter Tryz.func40, Tryz.ntmps40
 go_upto_region 2 with (have _t := q0; go_at_call 12; clear _t; go_loud (refine (rquad_any A c n most l _ HC.out HN.out hm).mono ?_; rintro e w2 ⟨A5, c5, qn, q, ok, rfl, l5, n5, a5, b5, hok, hno, hqo⟩; have hc5 := n5.cap; rw [l5] at hc5; have H5 := Lib.hid l5; have N5 := Lib.hid n5; have A5' := Lib.hid a5; have L5 := Lib.hid b5.size; have B5 := Lib.hid (HB.out.trans (b5.mono HB.out.size)); have HQ := Lib.hid ((b5.block _ (heapLt HQ.out)).trans HQ.out); have OK := Lib.hid hok; have NO := Lib.hid hno; have QO := Lib.hid hqo; clear l5 n5 a5 b5 hok hno hqo; have q1 := q0; clear q0))
 have hb2 := (Below.refl w2.heap.size w2).alloc (Nat.le_refl _) (.cells #[.slice A5 qn c5] 26)
 have N6 := Lib.hid (N5.out.below hb2)
 have B6 := Lib.hid (B5.out.trans (hb2.mono B5.out.size))
 have Q6 := Lib.hid ((hb2.block _ (heapLt HQ.out)).trans HQ.out)
 clear hb2 HQ B5 N5
 obtain ⟨W0, hW0⟩ : ∃ W0 : World, W0 = (w2.alloc (.cells #[.slice A5 qn c5] 26)).drew := ⟨_, rfl⟩
 have hd := Below.drew' (Below.refl (w2.alloc (.cells #[.slice A5 qn c5] 26)).heap.size (w2.alloc (.cells #[.slice A5 qn c5] 26)))
 rw [← hW0] at hd
 have hS0 := one_cell ((hd.block _ (by simp)).trans (heap_alloc_new w2 (.cells #[.slice A5 qn c5] 26)))
 have N7 := Lib.hid (N6.out.below hd)
 have B7 := Lib.hid (B6.out.trans (hd.mono B6.out.size))
 have Q7 := (hd.block _ (heapLt Q6.out)).trans Q6.out
 obtain ⟨r0, r1⟩ := pat_cells Q7
 have r2 := frozen_of_row W0 w.heap.size 0 _ _ Q7
 have r3 := frozen_of_row W0 w.heap.size 1 _ _ Q7
 have hne : w.heap.size < w2.heap.size := by have := L5.out; rw [World.size_alloc] at this; omega
 have Q8 := Lib.hid Q7
 clear N6 B6 Q6 hd Q7
 cases hok : ok with
 | false =>
  subst hok
  refine wp_region_noPanic ?_
  refine wp_region_held (S := fun w' => w'.cell? ⟨w2.heap.size, 0, none⟩ = some (.slice A5 qn c5)) (by kernel_rfl) ?_
  change wpAnyH _ _ _ _ _ _ _ _ (w2.alloc (.cells #[.slice A5 qn c5] 26)).drew
  rw [← hW0]
  clear hW0
  refine wpAnyH_take (i := 0) (v := ?_) rfl (by kernel_rfl) (by kernel_rfl) (by kernel_rfl) (fun _ _ _ h => h) (Or.inl ⟨by rfl, ?_⟩) hS0 ?_
  rotate_left
  ·
   rintro w' s0_
   go_simp
   first | done | with_reducible rfl | rfl
  simp only [Act.put, LA]
  refine wpAnyH_take (i := 1) (v := ?_) rfl (by kernel_rfl) (by kernel_rfl) (by kernel_rfl) (fun _ _ _ h => h) (Or.inl ⟨by rfl, ?_⟩) hS0 ?_
  rotate_left
  ·
   rintro w' s0_
   go_simp
   first | done | with_reducible rfl | rfl
  simp only [Act.put, LA]
  refine wpAnyH_take (i := 2) (v := ?_) rfl (by kernel_rfl) (by kernel_rfl) (by kernel_rfl) (fun _ _ _ h => h) (Or.inl ⟨by rfl, ?_⟩) hS0 ?_
  rotate_left
  ·
   rintro w' s0_
   go_simp
   first | done | with_reducible rfl | rfl
  simp only [Act.put, LA]
  refine wpAnyH_take (i := 3) (v := ?_) rfl (by kernel_rfl) (by kernel_rfl) (by kernel_rfl) (fun _ _ _ h => h) (Or.inl ⟨by rfl, ?_⟩) hS0 ?_
  rotate_left
  ·
   rintro w' s0_
   go_simp
   first | done | with_reducible rfl | rfl
  simp only [Act.put, LA]
  refine wpAnyH_take (i := 4) (v := ?_) rfl (by kernel_rfl) (by kernel_rfl) (by kernel_rfl) (fun _ _ _ h => h) (Or.inl ⟨by rfl, ?_⟩) hS0 ?_
  rotate_left
  ·
   rintro w' s0_
   go_simp
   first | done | with_reducible rfl | rfl
  simp only [Act.put, LA]
  refine wpAnyH_take (i := 5) (v := undef) rfl (by kernel_rfl) (by kernel_rfl) (by kernel_rfl) (fun _ _ _ h => h) (Or.inr ⟨by rfl, rfl⟩) hS0 ?_
  simp only [Act.put, LA]
  refine wpAnyH_take (i := 6) (v := undef) rfl (by kernel_rfl) (by kernel_rfl) (by kernel_rfl) (fun _ _ _ h => h) (Or.inr ⟨by rfl, rfl⟩) hS0 ?_
  simp only [Act.put, LA]
  refine wpAnyH_take (i := 7) (v := ?_) rfl (by kernel_rfl) (by kernel_rfl) (by kernel_rfl) (fun _ _ _ h => h) (Or.inl ⟨by rfl, ?_⟩) hS0 ?_
  rotate_left
  ·
   rintro w' s0_
   go_simp
   first | done | with_reducible rfl | rfl
  simp only [Act.put, LA]
  refine wpAnyH_ready (rs := [8]) (by kernel_rfl) (by simp) (AllReadyH.cons rfl (fun K hK => ?_) AllReadyH.nil)
  go_simp
  refine hK.out _ _ (by rw [World.cell?_setCell_other _ _ _ _ (by simp), World.cell?_setCell_other _ _ _ _ (by simp)]; exact hS0) (fun hS9 => ?_)
  clear hK K
  refine wpAnyH_take (i := 9) (v := ?_) rfl (by kernel_rfl) (by kernel_rfl) (by kernel_rfl) (fun _ _ _ h => h) (Or.inl ⟨by rfl, ?_⟩) hS9 ?_
  rotate_left
  ·
   rintro w' s0_
   go_simp
   first | done | with_reducible rfl | rfl
  simp only [Act.put, LA]
  refine wpAnyH_done (by kernel_rfl) ?_ _
  refine NoPanic.normal ?_
  go_wp2_with fail
  have QV := (heap_setCell_same _ w.heap.size 1 _ _ (.slice A5 qn c5) ((heap_setCell_same W0 w.heap.size 0 _ _ (.string s) Q8.out).trans rfl)).trans rfl
  obtain ⟨e0, e1⟩ := pat_cells QV
  refine bodyPost_ret (v := .tuple #[.agg #[.string s, .slice A5 qn c5], .bool false]) (by simp [results, Tryz.results40, go_sem, e0, e1]) rfl ?_
  have BV := (B7.out.setCell (p := ⟨w.heap.size, 0, none⟩) (Nat.le_refl _) (.string s)).setCell (p := ⟨w.heap.size, 1, none⟩) (Nat.le_refl _) (.slice A5 qn c5)
  refine ⟨A5, c5, qn, q, false, rfl, H5.out, ?_, A5'.out, BV, OK.out, fun _ => NO.out (by trivial), fun h => by (cases h)⟩
  exact (N7.out.patb Q8.out).patb ((heap_setCell_same W0 w.heap.size 0 _ _ (.string s) Q8.out).trans rfl)
 | true =>
  subst hok
  refine wp_region_noPanic ?_
  refine wp_region_held (S := fun w' => w'.cell? ⟨w2.heap.size, 0, none⟩ = some (.slice A5 qn c5)) (by kernel_rfl) ?_
  change wpAnyH _ _ _ _ _ _ _ _ (w2.alloc (.cells #[.slice A5 qn c5] 26)).drew
  rw [← hW0]
  clear hW0
  refine wpAnyH_take (i := 0) (v := ?_) rfl (by kernel_rfl) (by kernel_rfl) (by kernel_rfl) (fun _ _ _ h => h) (Or.inl ⟨by rfl, ?_⟩) hS0 ?_
  rotate_left
  ·
   rintro w' s0_
   go_simp
   first | done | with_reducible rfl | rfl
  simp only [Act.put, LA]
  refine wpAnyH_take (i := 1) (v := ?_) rfl (by kernel_rfl) (by kernel_rfl) (by kernel_rfl) (fun _ _ _ h => h) (Or.inl ⟨by rfl, ?_⟩) hS0 ?_
  rotate_left
  ·
   rintro w' s0_
   go_simp
   first | done | with_reducible rfl | rfl
  simp only [Act.put, LA]
  refine wpAnyH_take (i := 2) (v := ?_) rfl (by kernel_rfl) (by kernel_rfl) (by kernel_rfl) (fun _ _ _ h => h) (Or.inl ⟨by rfl, ?_⟩) hS0 ?_
  rotate_left
  ·
   rintro w' s0_
   go_simp
   first | done | with_reducible rfl | rfl
  simp only [Act.put, LA]
  refine wpAnyH_take (i := 3) (v := ?_) rfl (by kernel_rfl) (by kernel_rfl) (by kernel_rfl) (fun _ _ _ h => h) (Or.inl ⟨by rfl, ?_⟩) hS0 ?_
  rotate_left
  ·
   rintro w' s0_
   go_simp
   first | done | with_reducible rfl | rfl
  simp only [Act.put, LA]
  refine wpAnyH_take (i := 4) (v := ?_) rfl (by kernel_rfl) (by kernel_rfl) (by kernel_rfl) (fun _ _ _ h => h) (Or.inl ⟨by rfl, ?_⟩) hS0 ?_
  rotate_left
  ·
   rintro w' s0_
   go_simp
   first | done | with_reducible rfl | rfl
  simp only [Act.put, LA]
  refine wpAnyH_take (i := 5) (v := ?_) rfl (by kernel_rfl) (by kernel_rfl) (by kernel_rfl) (fun _ _ _ h => h) (Or.inl ⟨by rfl, ?_⟩) hS0 ?_
  rotate_left
  ·
   rintro w' s0_
   go_simp
   first | done | with_reducible rfl | rfl
  simp only [Act.put, LA]
  refine wpAnyH_ready (rs := [6]) (by kernel_rfl) (by simp) (AllReadyH.cons rfl (fun K hK => ?_) AllReadyH.nil)
  go_simp
  refine (rrule_any s _ HS.out).mono ?_
  rintro e w3 ⟨rfl, rfl⟩
  rw [← HR.out]
  dsimp only
  refine hK.out _ _ hS0 (fun _ => ?_)
  clear hK K
  refine wpAnyH_take (i := 7) (v := ?_) rfl (by kernel_rfl) (by kernel_rfl) (by kernel_rfl) (fun _ _ _ h => h) (Or.inl ⟨by rfl, ?_⟩) hS0 ?_
  rotate_left
  ·
   rintro w' s0_
   go_simp
   first | done | with_reducible rfl | rfl
  simp only [Act.put, LA]
  refine wpAnyH_ready (rs := [8]) (by kernel_rfl) (by simp) (AllReadyH.cons rfl (fun K hK => ?_) AllReadyH.nil)
  go_simp
  refine hK.out _ _ (by rw [World.cell?_setCell_other _ _ _ _ (by simp), World.cell?_setCell_other _ _ _ _ (by simp)]; exact hS0) (fun hS9 => ?_)
  clear hK K
  refine wpAnyH_take (i := 9) (v := ?_) rfl (by kernel_rfl) (by kernel_rfl) (by kernel_rfl) (fun _ _ _ h => h) (Or.inl ⟨by rfl, ?_⟩) hS9 ?_
  rotate_left
  ·
   rintro w' s0_
   go_simp
   first | done | with_reducible rfl | rfl
  simp only [Act.put, LA]
  refine wpAnyH_done (by kernel_rfl) ?_ _
  refine NoPanic.normal ?_
  go_wp2_with fail
  have QV := (heap_setCell_same _ w.heap.size 1 _ _ (.slice A5 qn c5) ((heap_setCell_same W0 w.heap.size 0 _ _ (.string s) Q8.out).trans rfl)).trans rfl
  obtain ⟨e0, e1⟩ := pat_cells QV
  refine bodyPost_ret (v := .tuple #[.agg #[.string s, .slice A5 qn c5], .bool R]) (by simp [results, Tryz.results40, go_sem, e0, e1]) rfl ?_
  have BV := (B7.out.setCell (p := ⟨w.heap.size, 0, none⟩) (Nat.le_refl _) (.string s)).setCell (p := ⟨w.heap.size, 1, none⟩) (Nat.le_refl _) (.slice A5 qn c5)
  refine ⟨A5, c5, qn, q, true, by rw [HR.out]; rfl, H5.out, ?_, A5'.out, BV, OK.out, fun h => by (cases h), fun _ => QO.out (by trivial)⟩
  exact (N7.out.patb Q8.out).patb ((heap_setCell_same W0 w.heap.size 0 _ _ (.string s) Q8.out).trans rfl)
end Go.Proofs.YtajgfmfopkggdaaGreat
