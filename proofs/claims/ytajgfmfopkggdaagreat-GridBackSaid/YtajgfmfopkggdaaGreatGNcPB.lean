import Derived.Test.YtajgfmfopkggdaaGreatGClRa

set_option linter.unusedVariables false
set_option linter.unusedSimpArgs false
set_option maxRecDepth 100000
set_option maxHeartbeats 6400000
namespace Go.Proofs.YtajgfmfopkggdaaGreat
open Go.RowKit Num Nds
theorem p2_cast (k : Nat) : p2 k = ((2 ^ k : Nat) : Int) := by
 unfold p2
 rw [Int.natCast_pow]
 rfl
end Go.Proofs.YtajgfmfopkggdaaGreat

namespace Go.Proofs.YtajgfmfopkggdaaGreat
open Nds
theorem kid_wf {l : List Nd} (hl : looseB l = true) : ∀ {m : Nat} {k : Int}, kidB l ((m : Int) + 1) k = true → wfT (m : Int) (kidT (dens l) ((m : Int) + 1) k)
 | 0, k, hk => by
  have h : kidB l 1 k = true := hk
  rw [kidB_one, decide_eq_true_iff] at h; exact wf_st h
 | m + 1, k, hk => by
  have hne : (((m + 1 : Nat)) : Int) + 1 ≠ 1 := by omega
  rcases kid_up hne hk with rfl | ⟨p, rfl, hp, hlv⟩
  ·rw [kidT_zero]
   trivial
  ·rw [kidT_den hne, show ((p : Int) + 1).toNat = p + 1 by omega]; have h := wf_den hl p hp
   rwa [hlv, show (((m + 1 : Nat)) : Int) + 1 - 1 = ((m + 1 : Nat) : Int) by omega] at h
theorem cell_out {t : Tr} {n : Nat} {x y : Int} (hw : wfT (n : Int) t) (h : ¬ (0 ≤ x ∧ x < p2 n ∧ 0 ≤ y ∧ y < p2 n)) : cellC t x y = 0 :=
 Classical.byContradiction fun h2 => h (cell_in t n x y hw h2)
theorem norm_lv' {l : List Nd} {x : Nd} {m : Nat} (h : x.lv = (m : Int) + 1) : norm (dens l) x = mk ((m : Int) + 1) (kidT (dens l) ((m : Int) + 1) (x.kid 0)) (kidT (dens l) ((m : Int) + 1) (x.kid 1)) (kidT (dens l) ((m : Int) + 1) (x.kid 2)) (kidT (dens l) ((m : Int) + 1) (x.kid 3)) := by
 unfold norm
 rw [h]
 rfl
end Go.Proofs.YtajgfmfopkggdaaGreat

namespace Go.Proofs.YtajgfmfopkggdaaGreat
open Go.RowKit Num Nds
def getQ (q : List Nd) (X Y : Int) : Int := cellM (den q q.length) X Y
theorem getQ_byte {q : List Nd} (hq : looseB q = true) (X Y : Int) : 0 ≤ getQ q X Y ∧ getQ q X Y ≤ 255 := by
 have key : ∀ (t : Tr) (n : Nat) (x y : Int), wfT (n : Int) t → 0 ≤ cellC t x y ∧ cellC t x y ≤ 255 := by
  intro t
  induction t with
  | e => intro n x y _; exact ⟨Int.le_refl 0, by show (0 : Int) ≤ 255; omega⟩
  | s k =>
   intro n x y h
   show 0 ≤ (if x = 0 ∧ y = 0 then k else 0) ∧ (if x = 0 ∧ y = 0 then k else 0) ≤ 255
   have := h.2
   split <;> omega
  | n v a b c d iha ihb ihc ihd =>
   intro n x y h
   obtain ⟨m, rfl, rfl, ha, hb, hc, hd, _⟩ := wf_n h
   show 0 ≤ cellC (.n _ a b c d) x y ∧ _
   unfold cellC
   split <;> split
   ·exact iha m _ _ ha
   ·exact ihc m _ _ hc
   ·exact ihb m _ _ hb
   ·exact ihd m _ _ hd
 unfold getQ
 obtain ⟨v, hv⟩ := wf_denn hq (Nat.le_refl q.length)
 have hw : ∃ n : Nat, wfT (n : Int) (den q q.length) := by
  generalize den q q.length = t at hv
  cases t with
  | e => exact ⟨0, trivial⟩
  | s k => exact ⟨0, by rw [show ((0 : Nat) : Int) = v from hv.1.symm]; exact hv⟩
  | n u a b c d =>
   have h1 := hv.1
   have h2 := hv.2.1
   exact ⟨v.toNat, by rwa [show ((v.toNat : Nat) : Int) = v by omega]⟩
 obtain ⟨n, hn⟩ := hw
 exact key _ n _ _ hn
end Go.Proofs.YtajgfmfopkggdaaGreat
