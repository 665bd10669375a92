/-
  limb.Sub, big.Add of unlike signs, big.Sub: their answers lie in new memory.
  cells: append of slices of cells; rows of cells whose numbers lie elsewhere.
  cells, the reference: what Last puts in, cell by cell.
-/
import Derived.Test.YtdmkiioimmmlbaaGNdsW
import Derived.Test.YtdmkiioimmmlbaaGRSub
import Derived.Test.YtdmkiioimmmlbaaGRound
import Derived.Test.YtdmkiioimmmlbaaGClK2
import Derived.Test.YtdmkiioimmmlbaaGNcRS
import Derived.Test.YtdmkiioimmmlbaaGClVp
import Derived.Test.YtdmkiioimmmlbaaGNcPB
import Derived.Test.YtdmkiioimmmlbaaGClWi
import Derived.ArgAppend

namespace Go.Proofs.Ytdmkiioimmmlbaa
set_option maxRecDepth 100000
set_option linter.unusedVariables false
set_option linter.unusedSimpArgs false
open Go.RowKit Num
def FrU (B : Nat) (A : Option Addr) : Prop := ∀ a, A = some a → B ≤ a.block
def RetIF (n : Int) (w : World) (e : Ending) (w' : World) : Prop :=
 ∃ A c s rs, e = .returned (.agg #[.bool s, .slice A rs.length c]) ∧ Us w' A c rs ∧ CanonI s rs ∧ ival s rs = n ∧ Below w.heap.size w w' ∧ FrU w.heap.size A
theorem RetIF.box {w w1 : World} {g : Nat} {A A0 : Option Addr} {c n0 c0 : Nat} {s s0 : Bool} {rs : List Nat} {n : Int} (hg : w.heap.size ≤ g) (hb : Box w1 g (.bool s0) (.slice A0 n0 c0)) (q : Us w1 A c rs) (k : CanonI s rs) (v : ival s rs = n) (b : Below w.heap.size w w1) (f : FrU w.heap.size A) :
  RetIF n w (.returned (.agg #[.bool s, .slice A rs.length c])) ((w1.setCell ⟨g, 0, none⟩ (.bool s)).setCell ⟨g, 1, none⟩ (.slice A rs.length c)) :=
 ⟨A, c, s, rs, rfl, q.boxed hb _ _, k, v, (b.setCell (p := ⟨g, 0, none⟩) hg _).setCell (p := ⟨g, 1, none⟩) hg _, f⟩
end Go.Proofs.Ytdmkiioimmmlbaa

namespace Go.Proofs.Ytdmkiioimmmlbaa
set_option maxRecDepth 100000
set_option linter.unusedVariables false
set_option linter.unusedSimpArgs false
open Go.RowKit Nds Num
theorem Cs.cells {w : World} {A : Option Addr} {c : Nat} {l : List Cv} {ad : Addr} (h : Cs w A c l) (e : A = some ad) : ∀ j u, (cvcs l)[j]? = some u → w.cell? (ad.add j) = some u := by
 intro j u hu
 have hj := (List.getElem?_eq_some_iff.1 hu).1
 rw [cvcs_len] at hj
 obtain ⟨b, off, e2, _, hc⟩ := h.at_ (by omega)
 rw [e] at e2
 cases e2
 obtain ⟨i, k, rfl, hk⟩ : ∃ i k, j = i * 5 + k ∧ k < 5 := ⟨j / 5, j % 5, by omega, by omega⟩
 have hi : i < l.length := by omega
 rw [cvcs_at l i k hi hk] at hu
 obtain ⟨h0, h1, h2, h3, h4⟩ := hc i hi
 have hadd : (⟨b, off, none⟩ : Addr).add (i * 5 + k) = ⟨b, off + i * 5 + k, none⟩ := by
  unfold Addr.add
  split
  ·
   rename_i h; rw [show off + i * 5 + k = off by omega]
  ·
   simp; omega
 rw [hadd]
 match k, hk with
 | 0, _ => exact h0.trans hu
 | 1, _ => exact h1.trans hu
 | 2, _ => exact h2.trans hu
 | 3, _ => exact h3.trans hu
 | 4, _ => exact h4.trans hu
def Ori (base : Nat) (P : Nat → Prop) (u : Cv) : Prop := (0 < u.xs.length → ∀ a, u.ax = some a → base ≤ a.block ∨ P a.block) ∧ (0 < u.ys.length → ∀ a, u.ay = some a → base ≤ a.block ∨ P a.block)
structure RlO (base : Nat) (P : Nat → Prop) (W : World) (v : Value) (M : List Cv) : Prop where
 o : OwnC W base v M
 ok : ∀ u ∈ M, CvU W u ∧ CvR u ∧ (∀ q, v.ownBlock = some q → Off q u) ∧ Ori base P u
theorem RlO.nil (base : Nat) (P : Nat → Prop) (W : World) : RlO base P W (.slice none 0 0) [] := ⟨OwnC.nil W base, fun u hu => by cases hu⟩
theorem RlO.next {base : Nat} {P : Nat → Prop} {W W1 : World} {v : Value} {M : List Cv} (h : RlO base P W v M) (k : Below W.heap.size W W1) : RlO base P W1 v M :=
 ⟨h.o.kept (gbN k) (own_dec (fun q _ e => by cases e)), fun u hu => by
  obtain ⟨h1, h2⟩ := h.ok u hu
  exact ⟨h1.below k, h2⟩⟩
theorem us_belowB {w w' : World} {A : Option Addr} {c B : Nat} {xs : List Nat} (h : Us w A c xs) (hA : 0 < xs.length → ∀ a, A = some a → a.block < B) (hb : Below B w w') : Us w' A c xs :=
 ⟨h.1, h.2.1, h.2.2.1, fun hn => by
  obtain ⟨b, off, e, hlt, hc⟩ := h.2.2.2 hn
  exact ⟨b, off, e, Nat.lt_of_lt_of_le hlt hb.size, fun j u hu => (hb.cell (p := ⟨b, off + j, none⟩) (show b < B from hA (by simpa using hn) ⟨b, off, none⟩ e)).trans (hc j u hu)⟩⟩
structure HB_ (W : World) (B g : Nat) (s : Bool) (A : Option Addr) (c : Nat) (xs : List Nat) (n : Int) : Prop where
 x : HX W g s A c xs n
 g : g < B
 l : 0 < xs.length → ∀ a, A = some a → a.block < B
theorem HB_.keep {W W1 : World} {B g : Nat} {s : Bool} {A : Option Addr} {c : Nat} {xs : List Nat} {n : Int} (h : HB_ W B g s A c xs n) (k : Below B W W1) : HB_ W1 B g s A c xs n :=
 ⟨⟨(k.block g h.g).trans h.x.box, us_belowB h.x.us h.l k, h.x.cn, h.x.v, h.x.off⟩, h.g, h.l⟩
theorem len_near {s : Bool} {xs : List Nat} {z : Int} (hc : CanonI s xs) (hv : ival s xs = z) (h0 : -p2 1330 ≤ z) (h1 : z ≤ p2 1330) : xs.length ≤ 50 := by
 refine len_ival hc hv 50 ?_
 obtain ⟨M, hM⟩ : ∃ M, M = 50 := ⟨_, rfl⟩
 obtain ⟨N, hN⟩ : ∃ N, N = 1330 := ⟨_, rfl⟩
 rw [← hN] at h0 h1
 have h2 : (p2 N).natAbs < 4294967296 ^ M := by
  unfold p2
  rw [show ((2 : Int) ^ N).natAbs = 2 ^ N by rw [Int.natAbs_pow]; rfl, show (4294967296 : Nat) = 2 ^ 32 by decide, ← Nat.pow_mul]
  exact Nat.pow_lt_pow_right (by decide) (by omega)
 rw [← hM]
 omega
end Go.Proofs.Ytdmkiioimmmlbaa

namespace Go.Proofs.Ytdmkiioimmmlbaa
set_option maxRecDepth 100000
set_option linter.unusedVariables false
set_option linter.unusedSimpArgs false
open Go.RowKit Nds Num
theorem Cs.rest {w : World} {b off c : Nat} {l : List Cv} (h : Cs w (some ⟨b, off, none⟩) c l) {k : Nat} (hk : k ≤ l.length) : Cs w (some ⟨b, off + k * 5, none⟩) (c - k) (l.drop k) := by
 refine ⟨fun v hv => h.1 v (List.mem_of_mem_drop hv), by have := h.2.1; rw [List.length_drop]; omega, by have := h.2.2.1; omega, fun hn => ?_⟩
 rw [List.length_drop] at hn
 obtain ⟨b', off', e, hb, hc⟩ := h.2.2.2 (by omega)
 cases e
 refine ⟨b, off + k * 5, rfl, hb, fun i hi => ?_⟩
 rw [List.length_drop] at hi
 have e2 : cat (l.drop k) i = cat l (k + i) := by
  unfold cat
  rw [List.getElem?_drop]
 rw [e2, show off + k * 5 + i * 5 = off + (k + i) * 5 by omega]
 exact hc (k + i) (by omega)
end Go.Proofs.Ytdmkiioimmmlbaa
