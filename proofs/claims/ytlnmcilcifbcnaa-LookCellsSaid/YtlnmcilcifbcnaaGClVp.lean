/-
  cells: a row of cells that is made, and filled one by one.
  cells.Of: the quad of cells, or why there is none.
  cells.Of: the walk.
-/
import Derived.Test.YtlnmcilcifbcnaaGClWi
import Derived.Test.YtlnmcilcifbcnaaGClNd
import Derived.Test.YtlnmcilcifbcnaaGNcRS
import Derived.Test.YtlnmcilcifbcnaaGNcOr
import Derived.Test.YtlnmcilcifbcnaaGNcPB
import Derived.Deep.QuietTactic
import Derived.BigQuiet
import Derived.Deep.RegionHeld3
import Derived.Test.YtlnmcilcifbcnaaGNdsW

set_option linter.unusedVariables false
set_option linter.unusedSimpArgs false
set_option maxRecDepth 100000
namespace Go.Proofs.Ytlnmcilcifbcnaa
open Go.RowKit Nds
theorem gb_two {a b c : World} {g : Nat} (h : a.grownBy b (some g)) (k : b.grownBy c (some g)) : a.grownBy c (some g) :=
 ⟨k.os.trans h.os, k.tape.trans h.tape, k.output.trans h.output, Nat.le_trans h.size k.size, fun i hi hne => (k.block i (Nat.lt_of_lt_of_le hi h.size) hne).trans (h.block i hi hne)⟩
theorem setC_one (w : World) (g o : Nat) (a : Value) : w.grownBy (w.setCell ⟨g, o, none⟩ a) (some g) :=
 ⟨rfl, rfl, rfl, by simp [World.setCell], fun i _ hi => Below.heap_setCell _ _ _ _ (fun e => hi (by rw [e]))⟩
end Go.Proofs.Ytlnmcilcifbcnaa

namespace Go.Proofs.Ytlnmcilcifbcnaa
open Go.RowKit Nds Num
def okC (v : Cv) : Bool := rightI v.sx v.xs && rightI v.sy v.ys
theorem upL_in {c : Cl} : ∀ {lv : Nat}, lv ≤ 1330 → upL c lv ≤ 1329 → inL c (upL c lv) = true := fun {lv} => by
 suffices h : ∀ d lv, lv + d = 1330 → upL c lv ≤ 1329 → inL c (upL c lv) = true from fun hl h1 => h (1330 - lv) lv (by omega) h1
 intro d
 induction d with
 | zero => intro lv he h1; rw [upL_top (by omega)] at h1; omega
 | succ d ih =>
  intro lv he h1
  cases hq : inL c lv with
  | true => rw [upL_stop hq]; exact hq
  | false =>
   rw [upL_next (by omega) hq] at h1 ⊢
   exact ih (lv + 1) (by omega) h1
theorem upL_ge (c : Cl) : ∀ (lv : Nat), lv ≤ 1330 → lv ≤ upL c lv ∧ upL c lv ≤ 1330 := fun lv hl => by
 suffices h : ∀ d lv, lv + d = 1330 → lv ≤ upL c lv ∧ upL c lv ≤ 1330 from h (1330 - lv) lv (by omega)
 intro d
 induction d with
 | zero => intro lv he; rw [upL_top (by omega)]; omega
 | succ d ih =>
  intro lv he
  cases hq : inL c lv with
  | true => rw [upL_stop hq]; omega
  | false =>
   rw [upL_next (by omega) hq]
   have := ih (lv + 1) (by omega)
   omega
theorem inL_up {c : Cl} {a b : Nat} (h : inL c a = true) (hab : a ≤ b) : inL c b = true := by
 unfold inL inH at h ⊢
 simp only [Bool.and_eq_true, decide_eq_true_eq] at h ⊢
 have := p2_mono (show a - 1 ≤ b - 1 by omega)
 omega
theorem least_in : ∀ (l : List Cl) (lv : Nat), lv ≤ 1330 → lv ≤ l.foldl (fun lv c => upL c lv) lv ∧ l.foldl (fun lv c => upL c lv) lv ≤ 1330 ∧ (l.foldl (fun lv c => upL c lv) lv ≤ 1329 → ∀ c ∈ l, inL c (l.foldl (fun lv c => upL c lv) lv) = true)
 | [], lv, h => ⟨Nat.le_refl _, h, fun _ c hc => by cases hc⟩
 | c :: l, lv, h => by
  obtain ⟨g1, g2⟩ := upL_ge c lv h
  obtain ⟨h1, h2, h3⟩ := least_in l (upL c lv) g2
  refine ⟨Nat.le_trans g1 h1, h2, fun h9 d hd => ?_⟩
  rcases List.mem_cons.1 hd with rfl | hd
  ·
   exact inL_up (upL_in h (Nat.le_trans h1 h9)) h1
  ·
   exact h3 h9 d hd
theorem of_in {l out : List Cv} (h : out.map Cv.cl = lastF (l.map Cv.cl)) {lv : Nat} (hl : lv = leastF (lastF (l.map Cv.cl))) (h9 : lv ≤ 1329) {x : Cv} (hx : x ∈ out) : inL x.cl lv = true := by
 have hm : x.cl ∈ lastF (l.map Cv.cl) := by rw [← h]; exact List.mem_map_of_mem hx
 have := (least_in (lastF (l.map Cv.cl)) 1 (by omega)).2.2
 unfold leastF at hl
 rw [← hl] at this
 exact this h9 _ hm
end Go.Proofs.Ytlnmcilcifbcnaa

namespace Go.Proofs.Ytlnmcilcifbcnaa
open Go.RowKit Nds Num
theorem right_canonC {s : Bool} {xs : List Nat} (h : rightI s xs = true) : CanonI s xs := by
 unfold rightI at h
 rw [Bool.and_eq_true] at h
 refine ⟨?_, fun hs e => ?_⟩
 ·
  have h1 := h.1
  simp [rightB] at h1
  unfold Canon
  rw [List.getLast?_eq_getElem?]
  intro e
  rcases h1 with rfl | h1
  ·
   simp at e
  ·
   rw [e] at h1
   exact h1 rfl
 ·
  subst hs e
  simp at h
end Go.Proofs.Ytlnmcilcifbcnaa
