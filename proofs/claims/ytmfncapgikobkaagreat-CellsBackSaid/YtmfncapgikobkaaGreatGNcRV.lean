/-
  cells: the reference's Great: more cells than are looked at, or greater numbers.
  node: the laws' examples.
  node: slices of nodes that the call has made; append.
  canon: memory: what a call may turn; a node that is filled kid by kid; a row of numbers of the call's own.
  canon: the reference's Inner, find, Same.
  canon: the reference's Shrink.
  canon: the reference's visit.
-/
import Derived.Test.YtmfncapgikobkaaGreatGClM
import Derived.Test.YtmfncapgikobkaaGreatGNcE
import Derived.Test.YtmfncapgikobkaaGreatGNdMem
import Derived.OwnWalk
import Derived.Laws.AppendOwnNone
import Derived.Maps.AppendAt

namespace Go.Proofs.YtmfncapgikobkaaGreat
set_option maxRecDepth 100000
set_option linter.unusedVariables false
set_option linter.unusedSimpArgs false
open Go.RowKit Nds
def vast (v : Cv) : Bool := decide (50 < v.xs.length) || decide (50 < v.ys.length)
def greatB (l : List Cv) (most : Int) : Bool := decide (most < (l.length : Int)) || l.any vast
theorem great_all {l : List Cv} {most : Int} (h1 : ¬ most < (l.length : Int)) (h : ∀ i, i < l.length → vast (cat l i) = false) : greatB l most = false := by
 unfold greatB
 rw [decide_eq_false h1, Bool.false_or]
 rw [List.any_eq_false]
 intro v hv
 obtain ⟨i, hi, rfl⟩ := List.getElem_of_mem hv
 have h2 := h i hi
 unfold cat at h2
 rw [List.getElem?_eq_getElem hi, Option.getD_some] at h2
 simp [h2]
theorem great_one {l : List Cv} {most : Int} {i : Nat} (hi : i < l.length) (h : vast (cat l i) = true) : greatB l most = true := by
 unfold greatB
 rw [Bool.or_eq_true]
 exact Or.inr (List.any_eq_true.2 ⟨cat l i, cat_mem hi, h⟩)
theorem great_len {l : List Cv} {most : Int} (h1 : most < (l.length : Int)) : greatB l most = true := by
 unfold greatB
 rw [decide_eq_true h1, Bool.true_or]
set_option maxRecDepth 100000 in
set_option maxHeartbeats 3200000 in
theorem cgreat_any (A : Option Addr) (c n : Nat) (most : Int) (l : List Cv) (w : World) (h : Cs w A c l) (hn : l.length = n) :
  Calls Tryz.prog 8 #[.slice A n c, .int .i64 most] w fun e w' => e = .returned (.bool (greatB l most)) ∧ ∃ q, w' = w.drewN q := by
 have hcl := h.cap
 rw [hn] at hcl
 obtain ⟨R, hR⟩ : ∃ R, R = greatB l most := ⟨_, rfl⟩
 rw [← hR]
 have HR := Lib.hid hR
 clear hR
 by_cases hl : most < (n : Int)
 ·
  have t1 : decide (most < (n : Int)) = true := decide_eq_true hl
  have HL := Lib.hid (show most < (l.length : Int) by rw [hn]; exact hl)
  clear h hl hn
  go_enter Tryz.func8, Tryz.ntmps8
  go_wp2_with fail
  go_ret
  refine ⟨?_, 0, rfl⟩
  rw [HR.out, great_len HL.out]
  rfl
 ·
  have t1 : decide (most < (n : Int)) = false := decide_eq_false hl
  have HNL := Lib.hid h
  have HL := Lib.hid hn
  have HM := Lib.hid (show (l.length : Int) ≤ most by rw [hn]; exact Int.not_lt.1 hl)
  clear h hl hn
  go_enter Tryz.func8, Tryz.ntmps8
  go_wp2_with fail
  go_loopw [5] (fun i  wr => ∃ (k : Nat) (nd : Nat), wr = w.drewN nd ∧ k ≤ n ∧ i = .int .i64 k ∧ ∀ j, j < k → vast (cat l j) = false) (fun i _ => n - (intOf i).toNat)
  case atStart => exact ⟨0, 0, rfl, by omega, rfl, fun j hj => by omega⟩
  case round =>
   obtain ⟨k, nd, rfl, hk, rfl, hall⟩ := hrel
   have HA := Lib.hid hall
   clear hall
   by_cases hlt : k < n
   ·
    obtain ⟨b, off, rfl, hb, hc⟩ := HNL.out.at_ (by rw [HL.out]; omega)
    obtain ⟨c1, c2, c3, c4, c5⟩ := hc k (by rw [HL.out]; exact hlt)
    have hu := HNL.out.1 _ (cat_mem (i := k) (by rw [HL.out]; exact hlt))
    have hu1 := hu.1.cap
    have hu2 := hu.2.1.cap
    clear hc hu
    obtain ⟨x, hx⟩ : ∃ x, x = cat l k := ⟨_, rfl⟩
    rw [← hx] at c1 c2 c3 c4 c5 hu1 hu2
    have HX := Lib.hid hx
    clear hx
    have i1 : (k : Int) < (n : Int) := by omega
    have i2 : (0 : Int) ≤ (k : Int) := by omega
    by_cases hx1 : 50 < x.xs.length
    ·
     have t2 : decide (50 < (x.xs.length : Int)) = true := decide_eq_true (by omega)
     have HV := Lib.hid (show vast x = true by unfold vast; rw [decide_eq_true hx1, Bool.true_or])
     have HLT := Lib.hid hlt
     clear hx1
     go_wp2_with fail
     go_ret
     refine ⟨?_, _, rfl⟩
     rw [HR.out, great_one (i := k) (by rw [HL.out]; exact HLT.out) (by rw [← HX.out]; exact HV.out)]
     rfl
    ·
     have t2 : decide (50 < (x.xs.length : Int)) = false := decide_eq_false (by omega)
     by_cases hx2 : 50 < x.ys.length
     ·
      have t3 : decide (50 < (x.ys.length : Int)) = true := decide_eq_true (by omega)
      have HV := Lib.hid (show vast x = true by unfold vast; rw [decide_eq_true hx2, Bool.or_true])
      have HLT := Lib.hid hlt
      clear hx1 hx2
      go_wp2_with fail
      go_ret
      refine ⟨?_, _, rfl⟩
      rw [HR.out, great_one (i := k) (by rw [HL.out]; exact HLT.out) (by rw [← HX.out]; exact HV.out)]
      rfl
     ·
      have t3 : decide (50 < (x.ys.length : Int)) = false := decide_eq_false (by omega)
      have HV := Lib.hid (show vast x = false by unfold vast; rw [decide_eq_false hx1, decide_eq_false hx2, Bool.or_false])
      clear hx1 hx2
      go_wp2_with fail
      go_roundw
      case rel =>
       refine ⟨k + 1, _, rfl, by omega, by go_num, fun j hj => ?_⟩
       rcases Nat.lt_or_ge j k with h1 | h1
       ·
        exact HA.out j h1
       ·
        rw [show j = k by omega, ← HX.out]; exact HV.out
      case measure => simp [intOf]; omega
   ·
    have HLT := Lib.hid hlt
    have i1 : ¬ (k : Int) < (n : Int) := by omega
    have t2 : decide ((k : Int) < (n : Int)) = false := decide_eq_false i1
    go_wp2_with fail
    go_ret
    refine ⟨?_, _, rfl⟩
    rw [HR.out, great_all (Int.not_lt.2 HM.out) (fun i hi => HA.out i (by rw [HL.out] at hi; omega))]
    rfl
end Go.Proofs.YtmfncapgikobkaaGreat

namespace Go.Proofs.YtmfncapgikobkaaGreat
set_option maxRecDepth 100000
set_option linter.unusedVariables false
set_option linter.unusedSimpArgs false
open Go.RowKit Nds
def one5 : List Nd := [⟨1, 0, 0, 0, 1⟩]
def hol5 : List Nd := [⟨1, 0, 0, 0, 1⟩, ⟨2, 1, 0, 0, 0⟩]
def far5 : List Nd := [⟨1, 0, 0, 0, 1⟩, ⟨2, 0, 0, 0, 1⟩]
theorem ns_lit1 (W : World) (g : Nat) (x : Nd) (hx : x.wf) (hg : W.heap.size = g) : Ns (W.alloc (.cells #[.int .i64 x.lv, .int .i64 x.a, .int .i64 x.b, .int .i64 x.c, .int .i64 x.d] 56)) (some ⟨g, 0, none⟩) 1 [x] := by
 subst hg
 refine ⟨by simpa using hx, by simp, by simp [maxLen], fun _ => ⟨_, 0, rfl, by simp, fun i hi => ?_⟩⟩
 have h0 : i = 0 := by simpa using hi
 subst h0
 exact NdAt.new W x _
theorem ns_lit2 (W : World) (g : Nat) (x y : Nd) (hx : x.wf) (hy : y.wf) (hg : W.heap.size = g) : Ns (W.alloc (.cells #[.int .i64 x.lv, .int .i64 x.a, .int .i64 x.b, .int .i64 x.c, .int .i64 x.d, .int .i64 y.lv, .int .i64 y.a, .int .i64 y.b, .int .i64 y.c, .int .i64 y.d] 56)) (some ⟨g, 0, none⟩) 2 [x, y] := by
 subst hg
 have h := heap_alloc_new W (.cells #[.int .i64 x.lv, .int .i64 x.a, .int .i64 x.b, .int .i64 x.c, .int .i64 x.d, .int .i64 y.lv, .int .i64 y.a, .int .i64 y.b, .int .i64 y.c, .int .i64 y.d] 56)
 refine ⟨fun z hz => ?_, by simp, by simp [maxLen], fun _ => ⟨_, 0, rfl, by simp, fun i hi => ?_⟩⟩
 ·
  simp at hz
  rcases hz with rfl | rfl
  ·
   exact hx
  ·
   exact hy
 ·
  match i, hi with
  | 0, _ => exact ⟨by rw [cell_of_row _ _ _ _ _ _ h]; rfl, by rw [cell_of_row _ _ _ _ _ _ h]; rfl, by rw [cell_of_row _ _ _ _ _ _ h]; rfl, by rw [cell_of_row _ _ _ _ _ _ h]; rfl, by rw [cell_of_row _ _ _ _ _ _ h]; rfl⟩
  | 1, _ => exact ⟨by rw [cell_of_row _ _ _ _ _ _ h]; rfl, by rw [cell_of_row _ _ _ _ _ _ h]; rfl, by rw [cell_of_row _ _ _ _ _ _ h]; rfl, by rw [cell_of_row _ _ _ _ _ _ h]; rfl, by rw [cell_of_row _ _ _ _ _ _ h]; rfl⟩
def St5 (w W : World) (g : Nat) : Prop :=
 Below w.heap.size w W ∧ Ns W (some ⟨g, 0, none⟩) 1 one5 ∧ Ns W (some ⟨g + 1, 0, none⟩) 2 hol5 ∧ Ns W (some ⟨g + 1 + 1, 0, none⟩) 2 far5 ∧ w.heap.size ≤ W.heap.size
theorem St5.step {w W W' : World} {g : Nat} (s : St5 w W g) (b : Below W.heap.size W W') : St5 w W' g :=
 ⟨s.1.trans (b.mono s.1.size), s.2.1.below b, s.2.2.1.below b, s.2.2.2.1.below b, Nat.le_trans s.2.2.2.2 b.size⟩
theorem St5.alloc {w W : World} {g : Nat} (s : St5 w W g) (o : Obj) : St5 w (W.alloc o) g := s.step ((Below.refl _ W).alloc (Nat.le_refl _) o)
theorem St5.start (w : World) : St5 w (((w.alloc (.cells #[.int .i64 1, .int .i64 0, .int .i64 0, .int .i64 0, .int .i64 1] 56)).alloc (.cells #[.int .i64 1, .int .i64 0, .int .i64 0, .int .i64 0, .int .i64 1, .int .i64 2, .int .i64 1, .int .i64 0, .int .i64 0, .int .i64 0] 56)).alloc (.cells #[.int .i64 1, .int .i64 0, .int .i64 0, .int .i64 0, .int .i64 1, .int .i64 2, .int .i64 0, .int .i64 0, .int .i64 0, .int .i64 1] 56)) w.heap.size := by
 have i0 : in64 0 := in64_0
 have i1 : in64 1 := ⟨by omega, by omega⟩
 have i2 : in64 2 := ⟨by omega, by omega⟩
 have h1 := ns_lit1 w w.heap.size ⟨1, 0, 0, 0, 1⟩ ⟨i1, i0, i0, i0, i1⟩ rfl
 have b2 := (Below.refl _ (w.alloc (.cells #[.int .i64 1, .int .i64 0, .int .i64 0, .int .i64 0, .int .i64 1] 56))).alloc (Nat.le_refl _) (.cells #[.int .i64 1, .int .i64 0, .int .i64 0, .int .i64 0, .int .i64 1, .int .i64 2, .int .i64 1, .int .i64 0, .int .i64 0, .int .i64 0] 56)
 have h2 := ns_lit2 (w.alloc (.cells #[.int .i64 1, .int .i64 0, .int .i64 0, .int .i64 0, .int .i64 1] 56)) (w.heap.size + 1) ⟨1, 0, 0, 0, 1⟩ ⟨2, 1, 0, 0, 0⟩ ⟨i1, i0, i0, i0, i1⟩ ⟨i2, i1, i0, i0, i0⟩ (by simp)
 have b3 := (Below.refl _ ((w.alloc (.cells #[.int .i64 1, .int .i64 0, .int .i64 0, .int .i64 0, .int .i64 1] 56)).alloc (.cells #[.int .i64 1, .int .i64 0, .int .i64 0, .int .i64 0, .int .i64 1, .int .i64 2, .int .i64 1, .int .i64 0, .int .i64 0, .int .i64 0] 56))).alloc (Nat.le_refl _) (.cells #[.int .i64 1, .int .i64 0, .int .i64 0, .int .i64 0, .int .i64 1, .int .i64 2, .int .i64 0, .int .i64 0, .int .i64 0, .int .i64 1] 56)
 have h3 := ns_lit2 ((w.alloc (.cells #[.int .i64 1, .int .i64 0, .int .i64 0, .int .i64 0, .int .i64 1] 56)).alloc (.cells #[.int .i64 1, .int .i64 0, .int .i64 0, .int .i64 0, .int .i64 1, .int .i64 2, .int .i64 1, .int .i64 0, .int .i64 0, .int .i64 0] 56)) (w.heap.size + 1 + 1) ⟨1, 0, 0, 0, 1⟩ ⟨2, 0, 0, 0, 1⟩ ⟨i1, i0, i0, i0, i1⟩ ⟨i2, i0, i0, i0, i1⟩ (by simp)
 exact ⟨(((Below.refl _ w).alloc (Nat.le_refl _) _).alloc (by simp) _).alloc (by simp; omega) _, (h1.below b2).below b3, h2.below b3, h3, by simp; omega⟩
end Go.Proofs.YtmfncapgikobkaaGreat

namespace Go.Proofs.YtmfncapgikobkaaGreat
set_option maxRecDepth 100000
set_option linter.unusedVariables false
set_option linter.unusedSimpArgs false
open Go.RowKit Nds
theorem Tryz.infoN : (Tryz.prog.info? 56).map (fun i => (i.zero, i.size, i.bytes)) = some (some (ndv nd0), 5, 40) := by kernel_rfl
def ndc (x : Nd) : List Value := [.int .i64 x.lv, .int .i64 x.a, .int .i64 x.b, .int .i64 x.c, .int .i64 x.d]
def ndcs (l : List Nd) : List Value := l.flatMap ndc
theorem ndcs_len (l : List Nd) : (ndcs l).length = l.length * 5 := by
 unfold ndcs
 induction l with
 | nil => rfl
 | cons x l ih =>
  rw [List.flatMap_cons, List.length_append, ih, List.length_cons]
  show 5 + _ = _
  omega
theorem ndcs_app (l m : List Nd) : ndcs (l ++ m) = ndcs l ++ ndcs m := by
 unfold ndcs
 rw [List.flatMap_append]
theorem ndcs_at : ∀ (l : List Nd) (i j : Nat), i < l.length → j < 5 → (ndcs l)[i * 5 + j]? = (ndc (at_ l i))[j]?
 | [], i, _, hi, _ => by simp at hi
 | x :: l, 0, j, _, hj => by
  show (ndc x ++ ndcs l)[0 * 5 + j]? = _
  rw [List.getElem?_append_left (by show _ < 5; omega), show 0 * 5 + j = j by omega]
  rfl
 | x :: l, i + 1, j, hi, hj => by
  show (ndc x ++ ndcs l)[(i + 1) * 5 + j]? = _
  rw [List.getElem?_append_right (by show 5 ≤ _; omega), show (i + 1) * 5 + j - (ndc x).length = i * 5 + j by show _ - 5 = _; omega, ndcs_at l i j (by simpa using hi) hj]
  rfl
theorem ndcs_one (l : List Nd) : ∀ u ∈ ndcs l, u.oneCell' = true := fun u hu => by
 obtain ⟨x, _, hx⟩ := List.mem_flatMap.1 hu
 simp only [ndc, List.mem_cons, List.not_mem_nil, or_false] at hx
 rcases hx with rfl | rfl | rfl | rfl | rfl <;> rfl
theorem Ns.cells {w : World} {A : Option Addr} {c : Nat} {l : List Nd} (h : Ns w A c l) {ad : Addr} (e : A = some ad) : ∀ j u, (ndcs l)[j]? = some u → w.cell? (ad.add j) = some u := by
 intro j u hu
 have hj := (List.getElem?_eq_some_iff.1 hu).1
 rw [ndcs_len] at hj
 obtain ⟨b, off, e2, _, hc⟩ := h.at_ (by omega)
 rw [e] at e2
 cases e2
 have hd := hc (j / 5) (by omega)
 have hs : j = j / 5 * 5 + j % 5 := by omega
 rw [hs, ndcs_at l (j / 5) (j % 5) (by omega) (by omega)] at hu
 obtain ⟨h1, h2, h3, h4, h5⟩ := hd
 have hlt : j % 5 < 5 := Nat.mod_lt _ (by omega)
 have hadd : (⟨b, off, none⟩ : Addr).add j = ⟨b, off + j, none⟩ := by simp [Addr.add]
 rw [hadd]
 generalize hq : j / 5 = q at *
 generalize hr : j % 5 = r at *
 match r, hlt with
 | 0, _ => rw [show off + j = off + q * 5 by omega, h1]; exact hu
 | 1, _ => rw [show off + j = off + q * 5 + 1 by omega, h2]; exact hu
 | 2, _ => rw [show off + j = off + q * 5 + 2 by omega, h3]; exact hu
 | 3, _ => rw [show off + j = off + q * 5 + 3 by omega, h4]; exact hu
 | 4, _ => rw [show off + j = off + q * 5 + 4 by omega, h5]; exact hu
def OwnN (w : World) (base : Nat) (v : Value) (l : List Nd) : Prop := (∀ x ∈ l, x.wf) ∧ w.ownsRow base 56 5 v l.length (ndcs l)
theorem OwnN.shape {w : World} {base : Nat} {v : Value} {l : List Nd} (h : OwnN w base v l) : ∃ A c, v = .slice A l.length c ∧ Ns w A c l ∧ ((A = none → c = 0) ∧ ∀ a, A = some a → base ≤ a.block) := by
 rcases h.2.2 with ⟨h', hn⟩ | ⟨g, cap, cur, h', hb, hg, hnc, hcm, hcs, htake⟩
 ·
  exact ⟨none, 0, by rw [h', hn], ⟨h.1, by omega, by simp [maxLen], fun h => by omega⟩, (fun _ => rfl), (fun a e => by cases e)⟩
 ·
  refine ⟨some ⟨g, 0, none⟩, cap, h', ⟨h.1, hnc, hcm, fun hn => ⟨g, 0, rfl, ?_, fun i hi => ?_⟩⟩, (fun e => by cases e), (fun a e => by cases e; exact hb)⟩
  ·
   rcases Nat.lt_or_ge g w.heap.size with hlt | hge
   ·
    exact hlt
   ·
    rw [Array.getElem?_eq_none hge] at hg; cases hg
  ·
   have hcell : ∀ j, j < 5 → w.cell? ⟨g, i * 5 + j, none⟩ = (ndc (at_ l i))[j]? := by
    intro j hj
    have hlt : i * 5 + j < l.length * 5 := by omega
    rw [cell_of_row w g (i * 5 + j) cur _ (0, 0) hg, ← ndcs_at l i j hi hj, ← htake, List.getElem?_take, if_pos hlt]
    simp
   rw [Nat.zero_add]
   exact ⟨hcell 0 (by omega), hcell 1 (by omega), hcell 2 (by omega), hcell 3 (by omega), hcell 4 (by omega)⟩
theorem OwnN.start (w : World) : OwnN (w.alloc (.cells #[] 56)) w.heap.size (.slice (some ⟨w.heap.size, 0, none⟩) 0 0) [] :=
 ⟨by simp, World.ownsRow_made w #[] 0 (Nat.le_refl _) (by simp [maxLen]) rfl⟩
theorem run_append_nodes (w : World) (base : Nat) (v : Value) (xs ys : List Nd) (ty : TypeId) (A : Option Addr) (m c : Nat) (how : OwnN w base v xs) (hN : Ns w A c ys) (hm : ys.length = m) (hA : A = none → c = 0) (hs : xs.length + m ≤ 1000000) (hb : base ≤ w.heap.size) :
  ∃ v' w', (Builtin.append_ #[25, 25] ty #[v, .slice A m c]).run Tryz.prog w = .ok v' w' ∧ OwnN w' base v' (xs ++ ys) ∧ w.grownBy w' v.ownBlock ∧ (v'.ownBlock = v.ownBlock ∨ v'.ownBlock = some w.heap.size) := by
 obtain ⟨i0, hi, hz0, hz1, hz2⟩ := info_parts Tryz.infoN
 have hwf : ∀ x ∈ xs ++ ys, x.wf := fun x hx => by
  rcases List.mem_append.1 hx with h | h
  ·
   exact how.1 x h
  ·
   exact hN.1 x h
 cases A with
 | none =>
  have hc := hA rfl
  have hy : ys = [] := by
   rcases Nat.eq_zero_or_pos ys.length with h | h
   ·
    exact List.eq_nil_of_length_eq_zero h
   ·
    obtain ⟨b, off, e, _⟩ := hN.at_ h
    cases e
  subst hy
  subst hc
  subst hm
  refine ⟨v, w, run_append_owned_none (P := Tryz.prog) (w := w) base _ ty 56 i0 5 Tryz.underlying25 hi v _ _ how.2, ?_, ⟨rfl, rfl, rfl, Nat.le_refl _, fun _ _ _ => rfl⟩, .inl rfl⟩
  rw [List.append_nil]
  exact how
 | some ad =>
  obtain ⟨v', w', hrun, h2, h3, _, h5⟩ := run_append_own_at (P := Tryz.prog) w base 25 ty 56 i0 (ndv nd0) 5 40 Tryz.underlying25 hi hz0 hz1 hz2 rfl (by omega) v xs.length (ndcs xs) how.2 ad m c (ndcs ys) (by rw [ndcs_len, hm]) (hN.cells rfl) (ndcs_one ys) (by simp only [maxLen]; omega) (by omega) hb
  refine ⟨v', w', hrun, ⟨hwf, ?_⟩, h3, h5⟩
  rw [ndcs_app, List.length_append, hm]
  exact h2
theorem oper_append_nodes {w : World} {o : Oper} {a : Act} {K : Act → World → Prop} {Q : Exit → Act → World → Prop} (s x : Operand)
  (hop : o.op = Op.call { callee := Callee.builtin Builtin.append, args := #[s, x], argTypes := #[25, 25] }) (base : Nat) (v : Value) (xs ys : List Nd) (A : Option Addr) (m c : Nat)
  (hs : a.eval s = v) (hx : a.eval x = .slice A m c) (how : OwnN w base v xs) (hN : Ns w A c ys) (hm : ys.length = m) (hA : A = none → c = 0) (hsz : xs.length + m ≤ 1000000) (hb : base ≤ w.heap.size)
  (h : ∀ v' w', OwnN w' base v' (xs ++ ys) → w.grownBy w' v.ownBlock → (v'.ownBlock = v.ownBlock ∨ v'.ownBlock = some w.heap.size) → K (a.put o.dst v') w') : Oper.wp Tryz.prog o a w K Q := by
 obtain ⟨v', w', hrun, h1, h2, h3⟩ := run_append_nodes w base v xs ys o.type A m c how hN hm hA hsz hb
 unfold Oper.wp execOp
 simp only [hop, resolve, invoke, builtin, Sem.run_bind, Sem.run_pure, Result.andThen_ok, List.map_toArray, List.map_cons, List.map_nil, hs, hx, hrun]
 exact h v' w' h1 h2 h3
theorem Ns.gbr {w w' : World} {A : Option Addr} {c : Nat} {l : List Nd} {row : Option Nat} (h : Ns w A c l) (hg : w.grownBy w' row) (hA : ∀ a, A = some a → some a.block ≠ row) : Ns w' A c l :=
 ⟨h.1, h.2.1, h.2.2.1, fun hn => by
  obtain ⟨b, off, e, hlt, hc⟩ := h.2.2.2 hn
  exact ⟨b, off, e, Nat.lt_of_lt_of_le hlt hg.size, fun i hi => (hc i hi).below (hg.block b hlt (hA _ e))⟩⟩
theorem OwnN.gbr {w w' : World} {base : Nat} {v : Value} {l : List Nd} {row : Option Nat} (h : OwnN w base v l) (hg : w.grownBy w' row) (hv : v.ownBlock = none ∨ v.ownBlock ≠ row) : OwnN w' base v l := ⟨h.1, h.2.kept hg hv⟩
theorem OwnN.alloc {w : World} {base : Nat} {v : Value} {l : List Nd} (h : OwnN w base v l) (o : Obj) : OwnN (w.alloc o) base v l := ⟨h.1, h.2.alloc o⟩
theorem OwnN.lt {w : World} {base : Nat} {v : Value} {l : List Nd} (h : OwnN w base v l) : ∀ k, v.ownBlock = some k → base ≤ k ∧ k < w.heap.size := h.2.lt
theorem Ns.rest {w : World} {b off c : Nat} {l : List Nd} (h : Ns w (some ⟨b, off, none⟩) c l) {k : Nat} (hk : k ≤ l.length) : Ns w (some ⟨b, off + k * 5, none⟩) (c - k) (l.drop k) := by
 have hlc := h.2.1
 refine ⟨fun x hx => h.1 x (List.mem_of_mem_drop hx), by rw [List.length_drop]; omega, by have := h.2.2.1; omega, fun hn => ?_⟩
 rw [List.length_drop] at hn
 obtain ⟨b2, off2, e, hlt, hc⟩ := h.at_ (by omega)
 cases e
 refine ⟨b, off + k * 5, rfl, hlt, fun i hi => ?_⟩
 rw [List.length_drop] at hi
 have e1 : Nds.at_ (l.drop k) i = Nds.at_ l (k + i) := by
  unfold Nds.at_
  rw [List.getElem?_drop]
 rw [e1, show off + k * 5 + i * 5 = off + (k + i) * 5 by omega]
 exact hc (k + i) (by omega)
def Sn (w W : World) (L : List (Option Addr × Nat × List Nd)) : Prop := Below w.heap.size w W ∧ ∀ t ∈ L, Ns W t.1 t.2.1 t.2.2
theorem Sn.start (w : World) : Sn w w [] := ⟨Below.refl _ _, by simp⟩
theorem Sn.get {w W : World} {L : List (Option Addr × Nat × List Nd)} (s : Sn w W L) {A : Option Addr} {c : Nat} {l : List Nd} (h : (A, c, l) ∈ L) : Ns W A c l := s.2 _ h
theorem Sn.step {w W W' : World} {L : List (Option Addr × Nat × List Nd)} (s : Sn w W L) (b : Below W.heap.size W W') : Sn w W' L :=
 ⟨s.1.trans (b.mono s.1.size), fun t ht => (s.2 t ht).below b⟩
theorem Sn.add {w W : World} {L : List (Option Addr × Nat × List Nd)} (s : Sn w W L) {A : Option Addr} {c : Nat} {l : List Nd} (h : Ns W A c l) : Sn w W ((A, c, l) :: L) :=
 ⟨s.1, fun t ht => by
  rcases List.mem_cons.1 ht with rfl | ht
  ·
   exact h
  ·
   exact s.2 t ht⟩
theorem Sn.alloc {w W : World} {L : List (Option Addr × Nat × List Nd)} (s : Sn w W L) (o : Obj) : Sn w (W.alloc o) L := s.step ((Below.refl _ W).alloc (Nat.le_refl _) o)
end Go.Proofs.YtmfncapgikobkaaGreat

namespace Go.Proofs.YtmfncapgikobkaaGreat
set_option maxRecDepth 100000
set_option linter.unusedVariables false
set_option linter.unusedSimpArgs false
open Go.RowKit Nds
structure Ky (P : Nat → Prop) (w w' : World) : Prop where
 os : w'.os = w.os
 tape : w'.tape = w.tape
 output : w'.output = w.output
 size : w.heap.size ≤ w'.heap.size
 block : ∀ k, k < w.heap.size → ¬ P k → w'.heap[k]? = w.heap[k]?
theorem Ky.refl (P : Nat → Prop) (w : World) : Ky P w w := ⟨rfl, rfl, rfl, Nat.le_refl _, fun _ _ _ => rfl⟩
theorem Ky.trans {P Q : Nat → Prop} {a b c : World} (h : Ky P a b) (k : Ky Q b c) (hQ : ∀ i, i < a.heap.size → Q i → P i) : Ky P a c :=
 ⟨k.os.trans h.os, k.tape.trans h.tape, k.output.trans h.output, Nat.le_trans h.size k.size, fun i hi hn => (k.block i (Nat.lt_of_lt_of_le hi h.size) (fun hq => hn (hQ i hi hq))).trans (h.block i hi hn)⟩
theorem Ky.gb {P : Nat → Prop} {a b c : World} {r : Option Nat} (h : Ky P a b) (k : b.grownBy c r) (hr : ∀ i, i < a.heap.size → r = some i → P i) : Ky P a c :=
 ⟨k.os.trans h.os, k.tape.trans h.tape, k.output.trans h.output, Nat.le_trans h.size k.size, fun i hi hn => (k.block i (Nat.lt_of_lt_of_le hi h.size) (fun hq => hn (hr i hi hq.symm))).trans (h.block i hi hn)⟩
theorem Ky.alloc {P : Nat → Prop} {a b : World} (h : Ky P a b) (o : Obj) : Ky P a (b.alloc o) := h.gb (World.grownBy_alloc b o none) (fun _ _ e => by cases e)
theorem Ky.below {P : Nat → Prop} {a b c : World} (h : Ky P a b) (k : Below b.heap.size b c) : Ky P a c :=
 ⟨k.os.trans h.os, k.tape.trans h.tape, k.output.trans h.output, Nat.le_trans h.size k.size, fun i hi hn => (k.block i (Nat.lt_of_lt_of_le hi h.size)).trans (h.block i hi hn)⟩
theorem Ky.set {P : Nat → Prop} {a b : World} (h : Ky P a b) (p : Addr) (hp : p.block < a.heap.size → P p.block) (u : Value) : Ky P a (b.setCell p u) :=
 ⟨h.os, h.tape, h.output, by simpa [World.setCell] using h.size, fun i hi hn => (Below.heap_setCell _ _ _ _ (fun e => hn (by subst e; exact hp hi))).trans (h.block i hi hn)⟩
theorem Ky.to {P : Nat → Prop} {a b : World} (h : Ky P a b) {B : Nat} (hB : B ≤ a.heap.size) (hP : ∀ k, P k → B ≤ k) : Below B a b :=
 ⟨h.os, h.tape, h.output, h.size, fun k hk => h.block k (Nat.lt_of_lt_of_le hk hB) (fun hp => Nat.not_lt.2 (hP k hp) hk)⟩
theorem Ky.nd {P : Nat → Prop} {w w' : World} (h : Ky P w w') {b o : Nat} {x : Nd} (hx : NdAt w b o x) (hb : b < w.heap.size) (hp : ¬ P b) : NdAt w' b o x := hx.below (h.block b hb hp)
def mix (x y : Nd) (k : Nat) : Nd := ⟨x.lv, if 0 < k then y.a else x.a, if 1 < k then y.b else x.b, if 2 < k then y.c else x.c, if 3 < k then y.d else x.d⟩
theorem mix_four {x y : Nd} (h : x.lv = y.lv) : mix x y 4 = y := by
 unfold mix
 rw [h]
 rfl
theorem NdAt.setKid {w : World} {b : Nat} {x y : Nd} {k : Nat} (h : NdAt w b 0 (mix x y k)) (hk : k < 4) {o : Nat} (ho : o = 1 + k) {u : Int} (hu : u = y.kid k) : NdAt (w.setCell ⟨b, o, none⟩ (.int .i64 u)) b 0 (mix x y (k + 1)) := by
 subst ho
 subst hu
 obtain ⟨h0, h1, h2, h3, h4⟩ := h
 have oth : ∀ i j : Nat, i ≠ j → (w.setCell ⟨b, i, none⟩ (.int .i64 (y.kid k))).cell? ⟨b, j, none⟩ = w.cell? ⟨b, j, none⟩ := fun i j hij => World.cell?_setCell_other _ _ _ _ (fun e => hij (by cases e; rfl))
 match k, hk with
 | 0, _ => exact ⟨(oth _ _ (by omega)).trans h0, World.cell?_setCell_same _ _ _ h1, (oth _ _ (by omega)).trans h2, (oth _ _ (by omega)).trans h3, (oth _ _ (by omega)).trans h4⟩
 | 1, _ => exact ⟨(oth _ _ (by omega)).trans h0, (oth _ _ (by omega)).trans h1, World.cell?_setCell_same _ _ _ h2, (oth _ _ (by omega)).trans h3, (oth _ _ (by omega)).trans h4⟩
 | 2, _ => exact ⟨(oth _ _ (by omega)).trans h0, (oth _ _ (by omega)).trans h1, (oth _ _ (by omega)).trans h2, World.cell?_setCell_same _ _ _ h3, (oth _ _ (by omega)).trans h4⟩
 | 3, _ => exact ⟨(oth _ _ (by omega)).trans h0, (oth _ _ (by omega)).trans h1, (oth _ _ (by omega)).trans h2, (oth _ _ (by omega)).trans h3, World.cell?_setCell_same _ _ _ h4⟩
def NdBox (w : World) (g : Nat) (x : Nd) : Prop := w.heap[g]? = some (.cells #[.int .i64 x.lv, .int .i64 x.a, .int .i64 x.b, .int .i64 x.c, .int .i64 x.d] 56)
theorem NdBox.lt {w : World} {g : Nat} {x : Nd} (h : NdBox w g x) : g < w.heap.size := (Array.getElem?_eq_some_iff.1 h).1
theorem NdBox.at_ {w : World} {g : Nat} {x : Nd} (h : NdBox w g x) : NdAt w g 0 x := by
 refine ⟨?_, ?_, ?_, ?_, ?_⟩ <;> (rw [cell_of_row w g _ _ _ (0, 0) h]; rfl)
theorem NdBox.free {w : World} {g : Nat} {x : Nd} (h : NdBox w g x) (k : Nat) : w.frozen? ⟨g, k, none⟩ = false := frozen_of_row w g k _ _ h
theorem NdBox.new (w : World) (x : Nd) : NdBox (w.alloc (.cells #[.int .i64 x.lv, .int .i64 x.a, .int .i64 x.b, .int .i64 x.c, .int .i64 x.d] 56)) w.heap.size x := heap_alloc_new w _
theorem NdBox.stay {w w' : World} {g : Nat} {x : Nd} (h : NdBox w g x) (hb : w'.heap[g]? = w.heap[g]?) : NdBox w' g x := hb.trans h
theorem NdBox.setKid {w : World} {g : Nat} {x y : Nd} {k : Nat} (h : NdBox w g (mix x y k)) (hk : k < 4) {o : Nat} (ho : o = 1 + k) {u : Int} (hu : u = y.kid k) : NdBox (w.setCell ⟨g, o, none⟩ (.int .i64 u)) g (mix x y (k + 1)) := by
 subst ho
 subst hu
 refine (heap_setCell_same w g (1 + k) _ _ _ h).trans ?_
 match k, hk with
 | 0, _ => rfl
 | 1, _ => rfl
 | 2, _ => rfl
 | 3, _ => rfl
def FrBox (w : World) (g : Nat) (x : Nd) : Prop := w.heap[g]? = some (.cells #[.int .i64 x.a, .int .i64 x.b, .int .i64 x.c, .int .i64 x.d] 54)
theorem FrBox.lt {w : World} {g : Nat} {x : Nd} (h : FrBox w g x) : g < w.heap.size := (Array.getElem?_eq_some_iff.1 h).1
theorem FrBox.at_ {w : World} {g : Nat} {x : Nd} (h : FrBox w g x) : w.cell? ⟨g, 0, none⟩ = some (.int .i64 x.a) ∧ w.cell? ⟨g, 1, none⟩ = some (.int .i64 x.b) ∧ w.cell? ⟨g, 2, none⟩ = some (.int .i64 x.c) ∧ w.cell? ⟨g, 3, none⟩ = some (.int .i64 x.d) := by
 refine ⟨?_, ?_, ?_, ?_⟩ <;> (rw [cell_of_row w g _ _ _ (0, 0) h]; rfl)
theorem FrBox.free {w : World} {g : Nat} {x : Nd} (h : FrBox w g x) (k : Nat) : w.frozen? ⟨g, k, none⟩ = false := frozen_of_row w g k _ _ h
theorem FrBox.new (w : World) (x : Nd) : FrBox (w.alloc (.cells #[.int .i64 x.a, .int .i64 x.b, .int .i64 x.c, .int .i64 x.d] 54)) w.heap.size x := heap_alloc_new w _
theorem FrBox.stay {w w' : World} {g : Nat} {x : Nd} (h : FrBox w g x) (hb : w'.heap[g]? = w.heap[g]?) : FrBox w' g x := hb.trans h
theorem FrBox.cell {w : World} {g : Nat} {x : Nd} (h : FrBox w g x) {k : Nat} (hk : k < 4) : w.cell? ⟨g, k, none⟩ = some (.int .i64 (x.kid k)) := by
 rw [cell_of_row w g _ _ _ (0, 0) h]
 match k, hk with
 | 0, _ => rfl
 | 1, _ => rfl
 | 2, _ => rfl
 | 3, _ => rfl
def OwnD (w : World) (base g n : Nat) (ds : List Nat) : Prop :=
 ds.length = n ∧ w.ownsRow base 3 1 (.slice (some ⟨g, 0, none⟩) n n) n (ds.map fun k : Nat => Value.int .i64 (k : Int))
theorem OwnD.cell {w : World} {base g n : Nat} {ds : List Nat} (h : OwnD w base g n ds) {k : Nat} (hk : k < n) : w.cell? ⟨g, k, none⟩ = some (.int .i64 ((ds.getD k 0 : Nat) : Int)) := by
 have hl : k < ds.length := by have := h.1; omega
 rw [h.2.cellAt k (by omega), List.getElem?_map, List.getD_eq_getElem?_getD, List.getElem?_eq_getElem hl]
 rfl
theorem OwnD.free {w : World} {base g n : Nat} {ds : List Nat} (h : OwnD w base g n ds) (k : Nat) : w.frozen? ⟨g, k, none⟩ = false := h.2.frozenAt k
theorem OwnD.set {w : World} {base g n : Nat} {ds : List Nat} (h : OwnD w base g n ds) (k u : Nat) : OwnD (w.setCell ⟨g, k, none⟩ (.int .i64 (u : Int))) base g n (ds.set k u) := by
 refine ⟨by simpa using h.1, ?_⟩
 rw [List.map_set]
 exact (h.2.stored k _).1
theorem madeD (n : Nat) : (madeCells (Value.cells (.int .i64 0)) (n * 1)).toList = (List.replicate n 0).map (fun k : Nat => Value.int .i64 (k : Int)) := by
 rw [Nat.mul_one]
 refine List.ext_getElem (by simp [madeCells]) fun i h1 h2 => ?_
 simp [madeCells, Value.cells, Nat.mod_one]
theorem OwnD.made {w : World} {base g n : Nat} (h : w.ownsRow base 3 1 (.slice (some ⟨g, 0, none⟩) n n) n (madeCells (Value.cells (.int .i64 0)) (n * 1)).toList) : OwnD w base g n (List.replicate n 0) :=
 ⟨by simp, by rw [← madeD]; exact h⟩
theorem OwnD.lt {w : World} {base g n : Nat} {ds : List Nat} (h : OwnD w base g n ds) : base ≤ g ∧ g < w.heap.size := h.2.lt g rfl
theorem OwnD.gbr {w w' : World} {base g n : Nat} {ds : List Nat} {row : Option Nat} (h : OwnD w base g n ds) (hg : w.grownBy w' row) (hv : row ≠ some g) : OwnD w' base g n ds := ⟨h.1, h.2.kept hg (.inr (fun e => hv e.symm))⟩
theorem gb_setCell (w : World) (p : Addr) (u : Value) : w.grownBy (w.setCell p u) (some p.block) :=
 ⟨rfl, rfl, rfl, by simp [World.setCell], fun i _ hi => Below.heap_setCell _ _ _ _ (fun e => hi (by rw [e]))⟩
theorem ownN_none (w : World) (base : Nat) : OwnN w base (.slice none 0 0) [] := ⟨by simp, World.ownsRow_nil w base _ 5⟩
theorem own_dec {v : Value} {r : Option Nat} (h : ∀ k, v.ownBlock = some k → r ≠ some k) : v.ownBlock = none ∨ v.ownBlock ≠ r := by
 cases hv : v.ownBlock with
 | none => exact .inl rfl
 | some k => exact .inr (fun e => h k hv e.symm)
end Go.Proofs.YtmfncapgikobkaaGreat

namespace Go.Proofs.YtmfncapgikobkaaGreat
set_option maxRecDepth 100000
set_option linter.unusedVariables false
set_option linter.unusedSimpArgs false
open Go.RowKit Nds
set_option maxRecDepth 100000 in
set_option maxHeartbeats 1600000 in
theorem rsame_any (A B : Option Addr) (c d n p : Nat) (l m : List Nd) (w : World) (h : Ns w A c l) (k : Ns w B d m) (hn : l.length = n) (hp : m.length = p) :
  Calls Tryz.prog 11 #[.agg #[.slice A n c], .agg #[.slice B p d]] w fun e w' => e = .returned (.bool (decide (l = m))) ∧ Below w.heap.size w w' := by
 have hb := ((Below.refl w.heap.size w).alloc (Nat.le_refl _) (.cells #[.slice A n c] 27)).alloc (by simp) (.cells #[.slice B p d] 27)
 have HB := Lib.hid hb
 have HL := Lib.hid (h.below hb)
 have HM := Lib.hid (k.below hb)
 have HN := Lib.hid hn
 have HP := Lib.hid hp
 obtain ⟨R, hR⟩ : ∃ R, R = decide (l = m) := ⟨_, rfl⟩
 rw [← hR]
 have HR := Lib.hid hR
 clear hb h k hn hp hR
 go_enter Tryz.func11, Tryz.ntmps11
 go_wp2_with (go_at_call 34; refine (rnodes_any _ _ _ _ _ _ l m _ HL.out HM.out HN.out HP.out).mono ?_; rintro e w1 ⟨rfl, q, rfl⟩; rw [← HR.out])
 go_ret
 exact ⟨rfl, below_drewN' HB.out _⟩
end Go.Proofs.YtmfncapgikobkaaGreat

namespace Go.Proofs.YtmfncapgikobkaaGreat
set_option maxRecDepth 100000
set_option linter.unusedVariables false
set_option linter.unusedSimpArgs false
open Go.RowKit Nds
theorem OwnN.stays {w w' : World} {base : Nat} {v : Value} {l : List Nd} (h : OwnN w base v l) (hb : Below w.heap.size w w') : OwnN w' base v l :=
 h.gbr (row := none) ⟨hb.os, hb.tape, hb.output, hb.size, fun i hi _ => hb.block i hi⟩ (by
  cases hv : v.ownBlock
  ·
   exact .inl rfl
  ·
   exact .inr (by simp))
def SS (l : List Nd) (t : Tr) (cur : List Nd) (p : Nat) : Prop := looseB cur = true ∧ p < cur.length ∧ den cur (p + 1) ≠ .e ∧ shrT (den cur (p + 1)) = t ∧ (cur.length : Int) + (at_ cur p).lv ≤ l.length + 1329
theorem SS.start {l : List Nd} (hl : looseB l = true) {p : Nat} (hp : p < l.length) (hne : den l (p + 1) ≠ .e) : SS l (shrT (den l (p + 1))) l p := by
 have := fit_lv (loose_fit hl hp)
 exact ⟨hl, hp, hne, rfl, by omega⟩
theorem SS.next {l cur : List Nd} {t : Tr} {p : Nat} (h : SS l t cur p) (hh : holT (den cur (p + 1)) = true) : SS l t (cur ++ [innN cur (at_ cur p)]) cur.length := by
 obtain ⟨h1, h2, h3, h4, h5⟩ := h
 obtain ⟨s1, s2, s3, s4⟩ := shr_list h1 h2 hh
 refine ⟨s1, by simp, by rw [s2]; exact s3, by rw [s2, s4]; exact h4, ?_⟩
 rw [at_last]
 show (((cur ++ [_]).length : Nat) : Int) + ((at_ cur p).lv - 1) ≤ _
 rw [List.length_append]
 show ((cur.length + 1 : Nat) : Int) + _ ≤ _
 omega
end Go.Proofs.YtmfncapgikobkaaGreat

namespace Go.Proofs.YtmfncapgikobkaaGreat
set_option maxRecDepth 100000
set_option linter.unusedVariables false
set_option linter.unusedSimpArgs false
open Go.RowKit Nds
def Dn (l out : List Nd) (ds : List Nat) : Prop := ∀ i, i ≤ l.length → 0 < ds.getD i 0 → NumT out (den l i) ((ds.getD i 0 : Nat) : Int)
theorem Dn.pre {l out m : List Nd} {ds : List Nat} (h : Dn l out ds) (hp : out <+: m) : Dn l m ds := fun i hi h0 => num_pre hp (h i hi h0)
theorem Dn.set {l out : List Nd} {ds : List Nat} (h : Dn l out ds) {j u : Nat} (hu : NumT out (den l j) (u : Int)) : Dn l out (ds.set j u) := by
 intro i hi h0
 by_cases e : i = j
 ·
  subst e
  by_cases hl : i < ds.length
  ·
   rw [List.getD_eq_getElem?_getD, List.getElem?_set_self hl]
   exact hu
  ·
   rw [List.set_eq_of_length_le (by omega)] at h0 ⊢
   exact h i hi h0
 ·
  rw [List.getD_eq_getElem?_getD, List.getElem?_set_ne (fun e2 => e e2.symm), ← List.getD_eq_getElem?_getD] at h0 ⊢
  exact h i hi h0
theorem Ky.row {P : Nat → Prop} {w w' : World} (h : Ky P w w') {base : Nat} {v : Value} {l : List Nd} (ho : OwnN w base v l) (hp : ∀ k, v.ownBlock = some k → ¬ P k) : OwnN w' base v l :=
 ⟨ho.1, by
  obtain ⟨h1, h2⟩ := ho.2
  refine ⟨h1, ?_⟩
  rcases h2 with h2 | ⟨g, cap, cur, hv, hg, hh, r⟩
  ·
   exact .inl h2
  ·
   subst hv
   exact .inr ⟨g, cap, cur, rfl, hg, (h.block g (Array.getElem?_eq_some_iff.1 hh).1 (hp g rfl)).trans hh, r⟩⟩
theorem Ky.ns {P : Nat → Prop} {w w' : World} (h : Ky P w w') {A : Option Addr} {c : Nat} {l : List Nd} (hn : Ns w A c l) (hp : ∀ a, A = some a → ¬ P a.block) : Ns w' A c l :=
 ⟨hn.1, hn.2.1, hn.2.2.1, fun h0 => by
  obtain ⟨b, off, e, hlt, hc⟩ := hn.2.2.2 h0
  exact ⟨b, off, e, Nat.lt_of_lt_of_le hlt h.size, fun i hi => (hc i hi).below (h.block b hlt (hp _ e))⟩⟩
theorem Ky.cell {P : Nat → Prop} {w w' : World} (h : Ky P w w') {a : Addr} {u : Value} (hc : w.cell? a = some u) (hp : ¬ P a.block) : w'.cell? a = some u :=
 (World.cell?_of_block (w := w) (h.block a.block (World.block_lt_of_cell? w a hc) hp)).trans hc
end Go.Proofs.YtmfncapgikobkaaGreat
