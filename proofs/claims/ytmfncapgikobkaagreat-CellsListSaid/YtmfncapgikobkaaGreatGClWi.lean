/-
  cells: how the finder stands in memory.
  cells: the finder's visit.
  cells: the reference's within.
-/
import Derived.Test.YtmfncapgikobkaaGreatGClPb
import Derived.Test.YtmfncapgikobkaaGreatGNcPB
import Derived.Deep.RegionHeld3
import Derived.StillTailTactics
import Derived.Test.YtmfncapgikobkaaGreatLay0

namespace Go.Proofs.YtmfncapgikobkaaGreat
set_option maxRecDepth 100000
set_option linter.unusedVariables false
set_option linter.unusedSimpArgs false
open Go.RowKit Nds Num
structure FK where
 fb : Nat
 gx : Nat
 gy : Nat
 n : Nat
 A : Option Addr
 c : Nat
 l : List Nd
 B : Option Addr
 d : Nat
 hs : List Nat
def FiP (k : FK) (vf : Value) : Nat → Prop := fun q => q = k.fb ∨ q = k.gx ∨ q = k.gy ∨ vf.ownBlock = some q
structure Fi (k : FK) (base : Nat) (vf : Value) (L : List Cv) (xs ys : List Nat) (W : World) : Prop where
 bx : W.heap[k.fb]? = some (.cells #[.slice k.A k.l.length k.c, .bool false, .slice k.B k.hs.length k.d, .slice (some ⟨k.gx, 0, none⟩) k.n k.n, .slice (some ⟨k.gy, 0, none⟩) k.n k.n, vf] 75)
 ns : Ns W k.A k.c k.l
 nsP : ∀ a, k.A = some a → a.block < W.heap.size ∧ ¬ FiP k vf a.block
 us : Us W k.B k.d k.hs
 usP : ∀ a, k.B = some a → a.block < W.heap.size ∧ ¬ FiP k vf a.block
 x : OwnU W k.gx k.gx k.n xs
 y : OwnU W k.gy k.gy k.n ys
 f : OwnC W base vf L
 ne : k.fb ≠ k.gx ∧ k.fb ≠ k.gy ∧ k.gx ≠ k.gy ∧ vf.ownBlock ≠ some k.fb ∧ vf.ownBlock ≠ some k.gx ∧ vf.ownBlock ≠ some k.gy
 ok : ∀ v ∈ L, CvU W v ∧ CvR v ∧ ∀ q, FiP k vf q → Off q v
theorem Fi.lt {k : FK} {base : Nat} {vf : Value} {L : List Cv} {xs ys : List Nat} {W : World} (h : Fi k base vf L xs ys W) : k.fb < W.heap.size ∧ k.gx < W.heap.size ∧ k.gy < W.heap.size ∧ ∀ q, vf.ownBlock = some q → q < W.heap.size :=
 ⟨(Array.getElem?_eq_some_iff.1 h.bx).1, h.x.lt, h.y.lt, fun q hq => (h.f.lt q hq).2⟩
theorem Fi.ltP {k : FK} {base : Nat} {vf : Value} {L : List Cv} {xs ys : List Nat} {W : World} (h : Fi k base vf L xs ys W) {q : Nat} (hq : FiP k vf q) : q < W.heap.size := by
 obtain ⟨h1, h2, h3, h4⟩ := h.lt
 rcases hq with rfl | rfl | rfl | hq
 ·
  exact h1
 ·
  exact h2
 ·
  exact h3
 ·
  exact h4 q hq
theorem Fi.next {k : FK} {base : Nat} {vf : Value} {L : List Cv} {xs ys : List Nat} {W W1 : World} (h : Fi k base vf L xs ys W) (g : Below W.heap.size W W1) : Fi k base vf L xs ys W1 :=
 ⟨(g.block _ h.lt.1).trans h.bx, h.ns.below g, (fun a e => ⟨Nat.lt_of_lt_of_le (h.nsP a e).1 g.size, (h.nsP a e).2⟩), h.us.below g, (fun a e => ⟨Nat.lt_of_lt_of_le (h.usP a e).1 g.size, (h.usP a e).2⟩), h.x.below g, h.y.below g, h.f.kept (gbN g) (own_dec (fun q _ e => by cases e)), h.ne, fun v hv => by
  obtain ⟨h1, h2, h3⟩ := h.ok v hv
  exact ⟨h1.below g, h2, h3⟩⟩
theorem Fi.cells {k : FK} {base : Nat} {vf : Value} {L : List Cv} {xs ys : List Nat} {W : World} (h : Fi k base vf L xs ys W) :
  (W.cell? ⟨k.fb, 0, none⟩ = some (.slice k.A k.l.length k.c) ∧ W.cell? ⟨k.fb, 1, none⟩ = some (.bool false) ∧ W.cell? ⟨k.fb, 2, none⟩ = some (.slice k.B k.hs.length k.d) ∧ W.cell? ⟨k.fb, 3, none⟩ = some (.slice (some ⟨k.gx, 0, none⟩) k.n k.n) ∧ W.cell? ⟨k.fb, 4, none⟩ = some (.slice (some ⟨k.gy, 0, none⟩) k.n k.n) ∧ W.cell? ⟨k.fb, 5, none⟩ = some vf) ∧ ∀ o, W.frozen? ⟨k.fb, o, none⟩ = false := by
 refine ⟨⟨?_, ?_, ?_, ?_, ?_, ?_⟩, fun o => frozen_of_row W k.fb o _ _ h.bx⟩ <;> (rw [cell_of_row W k.fb _ _ _ _ h.bx]; rfl)
theorem cv_turn {W W1 : World} {g : Nat} {v : Cv} (h : CvU W v) (hg : W.grownBy W1 (some g)) (ho : Off g v) : CvU W1 v :=
 cvU_kept h (fun q h1 h2 => hg.block q h1 (fun e => h2 (by cases e; rfl))) hg.size ho
theorem us_turn {W W1 : World} {g : Nat} {A : Option Addr} {c : Nat} {xs : List Nat} (h : Us W A c xs) (hg : W.grownBy W1 (some g)) (ho : ∀ a, A = some a → a.block ≠ g) : Us W1 A c xs :=
 us_kept h (fun q h1 h2 => hg.block q h1 (fun e => h2 (by cases e; rfl))) hg.size (fun _ => ho)
theorem ownU_turn {W W1 : World} {base g q n : Nat} {xs : List Nat} (h : OwnU W base q n xs) (hg : W.grownBy W1 (some g)) (ho : q ≠ g) : OwnU W1 base q n xs :=
 ⟨h.1, h.2.1, World.ownsRow.kept h.2.2 hg (.inr fun e => ho (Option.some.inj e))⟩
theorem Fi.putX {k : FK} {base : Nat} {vf : Value} {L : List Cv} {xs ys : List Nat} {W : World} (h : Fi k base vf L xs ys W) {i u : Nat} (hu : u < 4294967296) : Fi k base vf L (xs.set i u) ys (W.setCell ⟨k.gx, i, none⟩ (.int .u32 (u : Int))) := by
 have hg := gb_setCell W ⟨k.gx, i, none⟩ (.int .u32 (u : Int))
 obtain ⟨n1, n2, n3, n4, n5, n6⟩ := h.ne
 have hP : FiP k vf k.gx := .inr (.inl rfl)
 exact ⟨(hg.block _ h.lt.1 (fun e => n1 (Option.some.inj e))).trans h.bx, h.ns.gb (fun a e e2 => (h.nsP a e).2 (e2 ▸ hP)) hg, (fun a e => ⟨Nat.lt_of_lt_of_le (h.nsP a e).1 hg.size, (h.nsP a e).2⟩), us_turn h.us hg (fun a e e2 => (h.usP a e).2 (e2 ▸ hP)), (fun a e => ⟨Nat.lt_of_lt_of_le (h.usP a e).1 hg.size, (h.usP a e).2⟩), h.x.set i hu, ownU_turn h.y hg n3.symm, h.f.kept hg (own_dec (fun q hq e => n5 (hq.trans e.symm))), h.ne, fun v hv => by
  obtain ⟨h1, h2, h3⟩ := h.ok v hv
  exact ⟨cv_turn h1 hg (h3 _ hP), h2, h3⟩⟩
theorem Fi.putY {k : FK} {base : Nat} {vf : Value} {L : List Cv} {xs ys : List Nat} {W : World} (h : Fi k base vf L xs ys W) {i u : Nat} (hu : u < 4294967296) : Fi k base vf L xs (ys.set i u) (W.setCell ⟨k.gy, i, none⟩ (.int .u32 (u : Int))) := by
 have hg := gb_setCell W ⟨k.gy, i, none⟩ (.int .u32 (u : Int))
 obtain ⟨n1, n2, n3, n4, n5, n6⟩ := h.ne
 have hP : FiP k vf k.gy := .inr (.inr (.inl rfl))
 exact ⟨(hg.block _ h.lt.1 (fun e => n2 (Option.some.inj e))).trans h.bx, h.ns.gb (fun a e e2 => (h.nsP a e).2 (e2 ▸ hP)) hg, (fun a e => ⟨Nat.lt_of_lt_of_le (h.nsP a e).1 hg.size, (h.nsP a e).2⟩), us_turn h.us hg (fun a e e2 => (h.usP a e).2 (e2 ▸ hP)), (fun a e => ⟨Nat.lt_of_lt_of_le (h.usP a e).1 hg.size, (h.usP a e).2⟩), ownU_turn h.x hg n3, h.y.set i hu, h.f.kept hg (own_dec (fun q hq e => n6 (hq.trans e.symm))), h.ne, fun v hv => by
  obtain ⟨h1, h2, h3⟩ := h.ok v hv
  exact ⟨cv_turn h1 hg (h3 _ hP), h2, h3⟩⟩
structure Fj (k : FK) (base : Nat) (vf vo : Value) (L : List Cv) (xs ys : List Nat) (W : World) : Prop where
 bx : W.heap[k.fb]? = some (.cells #[.slice k.A k.l.length k.c, .bool false, .slice k.B k.hs.length k.d, .slice (some ⟨k.gx, 0, none⟩) k.n k.n, .slice (some ⟨k.gy, 0, none⟩) k.n k.n, vo] 75)
 ns : Ns W k.A k.c k.l
 nsP : ∀ a, k.A = some a → a.block < W.heap.size ∧ ¬ FiP k vf a.block
 us : Us W k.B k.d k.hs
 usP : ∀ a, k.B = some a → a.block < W.heap.size ∧ ¬ FiP k vf a.block
 x : OwnU W k.gx k.gx k.n xs
 y : OwnU W k.gy k.gy k.n ys
 f : OwnC W base vf L
 ne : k.fb ≠ k.gx ∧ k.fb ≠ k.gy ∧ k.gx ≠ k.gy ∧ vf.ownBlock ≠ some k.fb ∧ vf.ownBlock ≠ some k.gx ∧ vf.ownBlock ≠ some k.gy
 ok : ∀ v ∈ L, CvU W v ∧ CvR v ∧ ∀ q, FiP k vf q → Off q v
theorem Fi.more {k : FK} {base : Nat} {vf v2 : Value} {L : List Cv} {xs ys : List Nat} {W W1 : World} {u : Cv} (h : Fi k base vf L xs ys W) (hu : CvU W u) (hr : CvR u) (ho : ∀ q, FiP k vf q → Off q u)
  (hf : OwnC W1 base v2 (L ++ [u])) (hg : W.grownBy W1 vf.ownBlock) (hat : v2.ownBlock = vf.ownBlock ∨ v2.ownBlock = some W.heap.size) : Fj k base v2 vf (L ++ [u]) xs ys W1 := by
 obtain ⟨n1, n2, n3, n4, n5, n6⟩ := h.ne
 obtain ⟨l1, l2, l3, l4⟩ := h.lt
 have hP2 : ∀ q, FiP k v2 q → FiP k vf q ∨ q = W.heap.size := fun q hq => by
  rcases hq with e | e | e | e
  ·
   exact .inl (.inl e)
  ·
   exact .inl (.inr (.inl e))
  ·
   exact .inl (.inr (.inr (.inl e)))
  ·
   rcases hat with h1 | h1
   ·
    exact .inl (.inr (.inr (.inr (h1.symm.trans e))))
   ·
    exact .inr (Option.some.inj (e.symm.trans h1))
 have offN : ∀ v, CvU W v → Off W.heap.size v := fun v hv => ⟨fun h0 a ea => by have := us_lt hv.1 h0 a ea; omega, fun h0 a ea => by have := us_lt hv.2.1 h0 a ea; omega⟩
 have turnU : ∀ {A : Option Addr} {c : Nat} {zs : List Nat}, Us W A c zs → (0 < zs.length → ∀ a, A = some a → ∀ q, vf.ownBlock = some q → a.block ≠ q) → Us W1 A c zs := fun {A c zs} hz hz2 => by
  cases hv : vf.ownBlock with
  | none => exact hz.below ⟨hg.os, hg.tape, hg.output, hg.size, fun q hq => hg.block q hq (by rw [hv]; simp)⟩
  | some g => exact us_kept hz (fun q h1 h2 => hg.block q h1 (fun e => h2 (by rw [hv] at e; cases e; rfl))) hg.size (fun h0 a ea => hz2 h0 a ea g hv)
 have turnC : ∀ v, CvU W v → (∀ q, FiP k vf q → Off q v) → CvU W1 v := fun v hv hv2 => ⟨turnU hv.1 (fun h0 a ea q hq => (hv2 q (.inr (.inr (.inr hq)))).1 h0 a ea), turnU hv.2.1 (fun h0 a ea q hq => (hv2 q (.inr (.inr (.inr hq)))).2 h0 a ea), hv.2.2⟩
 have nb : ∀ q, FiP k vf q → q < W.heap.size := fun q hq => h.ltP hq
 have hno : ∀ q, q < W.heap.size → ¬ FiP k vf q → ¬ FiP k v2 q := fun q h1 h2 h3 => by
  rcases hP2 q h3 with h4 | h4
  ·
   exact h2 h4
  ·
   omega
 have hne : ∀ q, q < W.heap.size → vf.ownBlock ≠ some q → v2.ownBlock ≠ some q := fun q h1 h2 h3 => by
  rcases hat with h4 | h4
  ·
   exact h2 (h4.symm.trans h3)
  ·
   have := Option.some.inj (h4.symm.trans h3)
   omega
 have offP : ∀ v, CvU W v → (∀ q, FiP k vf q → Off q v) → ∀ q, FiP k v2 q → Off q v := fun v h1 h2 q h3 => by
  rcases hP2 q h3 with h4 | h4
  ·
   exact h2 q h4
  ·
   rw [h4]; exact offN v h1
 refine ⟨(hg.block _ l1 (fun e => n4 e.symm)).trans h.bx, h.ns.gbr hg (fun a ea e => (h.nsP a ea).2 (.inr (.inr (.inr e.symm)))), fun a ea => ⟨Nat.lt_of_lt_of_le (h.nsP a ea).1 hg.size, hno _ (h.nsP a ea).1 (h.nsP a ea).2⟩, turnU h.us (fun h0 a ea q hq e => (h.usP a ea).2 (.inr (.inr (.inr (e ▸ hq))))), fun a ea => ⟨Nat.lt_of_lt_of_le (h.usP a ea).1 hg.size, hno _ (h.usP a ea).1 (h.usP a ea).2⟩,
  ⟨h.x.1, h.x.2.1, World.ownsRow.kept h.x.2.2 hg (.inr fun e => n5 e.symm)⟩, ⟨h.y.1, h.y.2.1, World.ownsRow.kept h.y.2.2 hg (.inr fun e => n6 e.symm)⟩, hf, ⟨n1, n2, n3, hne _ l1 n4, hne _ l2 n5, hne _ l3 n6⟩, fun v hv => ?_⟩
 rcases List.mem_append.1 hv with hv | hv
 ·
  obtain ⟨h1, h2, h3⟩ := h.ok v hv
  exact ⟨turnC v h1 h3, h2, offP v h1 h3⟩
 ·
  rw [List.mem_singleton.1 hv]
  exact ⟨turnC u hu ho, hr, offP u hu ho⟩
theorem Fj.store {k : FK} {base : Nat} {vf vo : Value} {L : List Cv} {xs ys : List Nat} {W : World} (h : Fj k base vf vo L xs ys W) : Fi k base vf L xs ys (W.setCell ⟨k.fb, 5, none⟩ vf) := by
 have hg := gb_setCell W ⟨k.fb, 5, none⟩ vf
 obtain ⟨n1, n2, n3, n4, n5, n6⟩ := h.ne
 have hP : FiP k vf k.fb := .inl rfl
 exact ⟨heap_setCell_same W k.fb 5 _ _ vf h.bx, h.ns.gb (fun a e e2 => (h.nsP a e).2 (e2 ▸ hP)) hg, (fun a e => ⟨Nat.lt_of_lt_of_le (h.nsP a e).1 hg.size, (h.nsP a e).2⟩), us_turn h.us hg (fun a e e2 => (h.usP a e).2 (e2 ▸ hP)), (fun a e => ⟨Nat.lt_of_lt_of_le (h.usP a e).1 hg.size, (h.usP a e).2⟩), ownU_turn h.x hg n1.symm, ownU_turn h.y hg n2.symm, h.f.kept hg (own_dec (fun q hq e => n4 (hq.trans e.symm))), h.ne, fun v hv => by
  obtain ⟨h1, h2, h3⟩ := h.ok v hv
  exact ⟨cv_turn h1 hg (h3 _ hP), h2, h3⟩⟩
theorem Fj.cells {k : FK} {base : Nat} {vf vo : Value} {L : List Cv} {xs ys : List Nat} {W : World} (h : Fj k base vf vo L xs ys W) : W.cell? ⟨k.fb, 5, none⟩ = some vo ∧ ∀ o, W.frozen? ⟨k.fb, o, none⟩ = false :=
 ⟨by rw [cell_of_row W k.fb _ _ _ _ h.bx]; rfl, fun o => frozen_of_row W k.fb o _ _ h.bx⟩
end Go.Proofs.YtmfncapgikobkaaGreat

namespace Go.Proofs.YtmfncapgikobkaaGreat
set_option maxRecDepth 100000
set_option linter.unusedVariables false
set_option linter.unusedSimpArgs false
open Go.RowKit Nds Num
theorem putX_fi {k : FK} {base : Nat} {vf : Value} {L : List Cv} {xs ys : List Nat} (i b n : Nat) (w : World) (h : Fi k base vf L xs ys w) (hn : n = k.n) (hi : i / 32 < n) (hb : b < 2) (hn9 : n ≤ 1000) :
  Calls Tryz.prog 70 #[.slice (some ⟨k.gx, 0, none⟩) n n, .int .i64 (i : Int), .int .i64 (b : Int)] w fun e w' => e = .returned (.tuple #[]) ∧ ∃ xs', Fi k base vf L xs' ys w' ∧ val xs' / 2 ^ i = 2 * (val xs / 2 ^ (i + 1)) + b ∧ Ky (FiP k vf) w w' := by
 subst hn
 have hx := h.x.1.getD (i / 32)
 refine (putBit_any k.gx k.n k.n i b _ w hb hi hn9 hx (h.x.cell hi) (h.x.free _)).mono ?_
 rintro e w' ⟨rfl, rfl⟩
 have hP : FiP k vf k.gx := .inr (.inl rfl)
 have hk : Ky (FiP k vf) w (w.setCell ⟨k.gx, i / 32, none⟩ (.int .u32 ((putB (xs[i / 32]?.getD 0) (i % 32) b : Nat) : Int))) := (Ky.refl _ w).set _ (fun _ => hP) _
 exact ⟨rfl, _, (h.putX (put_lt hx (by omega) hb)).next (below_drewN (Below.refl _ _) 1), put_val h.x.1 (by rw [h.x.2.1]; exact hi) hb, hk.below (below_drewN (Below.refl _ _) 1)⟩
theorem putY_fi {k : FK} {base : Nat} {vf : Value} {L : List Cv} {xs ys : List Nat} (i b n : Nat) (w : World) (h : Fi k base vf L xs ys w) (hn : n = k.n) (hi : i / 32 < n) (hb : b < 2) (hn9 : n ≤ 1000) :
  Calls Tryz.prog 70 #[.slice (some ⟨k.gy, 0, none⟩) n n, .int .i64 (i : Int), .int .i64 (b : Int)] w fun e w' => e = .returned (.tuple #[]) ∧ ∃ ys', Fi k base vf L xs ys' w' ∧ val ys' / 2 ^ i = 2 * (val ys / 2 ^ (i + 1)) + b ∧ Ky (FiP k vf) w w' := by
 subst hn
 have hx := h.y.1.getD (i / 32)
 refine (putBit_any k.gy k.n k.n i b _ w hb hi hn9 hx (h.y.cell hi) (h.y.free _)).mono ?_
 rintro e w' ⟨rfl, rfl⟩
 have hP : FiP k vf k.gy := .inr (.inr (.inl rfl))
 have hk : Ky (FiP k vf) w (w.setCell ⟨k.gy, i / 32, none⟩ (.int .u32 ((putB (ys[i / 32]?.getD 0) (i % 32) b : Nat) : Int))) := (Ky.refl _ w).set _ (fun _ => hP) _
 exact ⟨rfl, _, (h.putY (put_lt hx (by omega) hb)).next (below_drewN (Below.refl _ _) 1), put_val h.y.1 (by rw [h.y.2.1]; exact hi) hb, hk.below (below_drewN (Below.refl _ _) 1)⟩
def corX (k : FK) (m : Nat) (xs : List Nat) : Int := ((val xs / 2 ^ (m + 1) : Nat) : Int) * p2 (m + 1) - val k.hs
def RetVi (k : FK) (base m : Nat) (t : Tr) (vf : Value) (L : List Cv) (xs ys : List Nat) (w : World) (e : Ending) (w' : World) : Prop :=
 ∃ vf' M xs' ys', e = .returned (.tuple #[]) ∧ Fi k base vf' (L ++ M) xs' ys' w' ∧ M.map Cv.cl = listT t (corX k m xs) (corX k m ys) ∧ val xs' / 2 ^ (m + 1) = val xs / 2 ^ (m + 1) ∧ val ys' / 2 ^ (m + 1) = val ys / 2 ^ (m + 1) ∧
  (∀ q, vf'.ownBlock = some q → vf.ownBlock = some q ∨ w.heap.size ≤ q) ∧ Ky (FiP k vf) w w'
structure ViJ (k : FK) (base m : Nat) (x : Nd) (vf : Value) (L : List Cv) (xs ys : List Nat) (w : World) (j : Nat) (vf' : Value) (M : List Cv) (xs' ys' : List Nat) (W : World) : Prop where
 fi : Fi k base vf' (L ++ M) xs' ys' W
 mm : M.map Cv.cl = listK k.l x m (corX k m xs) (corX k m ys) j
 xx : val xs' / 2 ^ (m + 1) = val xs / 2 ^ (m + 1)
 yy : val ys' / 2 ^ (m + 1) = val ys / 2 ^ (m + 1)
 vb : ∀ q, vf'.ownBlock = some q → vf.ownBlock = some q ∨ w.heap.size < q
 ky : Ky (FiP k vf) w W
 nb : NdBox W w.heap.size x
theorem ViJ.off {k : FK} {base m : Nat} {x : Nd} {vf : Value} {L : List Cv} {xs ys : List Nat} {w : World} {j : Nat} {vf' : Value} {M : List Cv} {xs' ys' : List Nat} {W : World} (h : ViJ k base m x vf L xs ys w j vf' M xs' ys' W) (h0 : Fi k base vf L xs ys w) : ¬ FiP k vf' w.heap.size := by
 obtain ⟨l1, l2, l3, l4⟩ := h0.lt
 intro hp
 rcases hp with e | e | e | e
 ·
  omega
 ·
  omega
 ·
  omega
 ·
  rcases h.vb _ e with h1 | h1
  ·
   have := l4 _ h1; omega
  ·
   omega
theorem ViJ.old {k : FK} {base m : Nat} {x : Nd} {vf : Value} {L : List Cv} {xs ys : List Nat} {w : World} {j : Nat} {vf' : Value} {M : List Cv} {xs' ys' : List Nat} {W : World} (h : ViJ k base m x vf L xs ys w j vf' M xs' ys' W) : ∀ q, q < w.heap.size → FiP k vf' q → FiP k vf q := fun q hq hp => by
 rcases hp with e | e | e | e
 ·
  exact .inl e
 ·
  exact .inr (.inl e)
 ·
  exact .inr (.inr (.inl e))
 ·
  rcases h.vb _ e with h1 | h1
  ·
   exact .inr (.inr (.inr h1))
  ·
   omega
theorem Fi.node {k : FK} {base : Nat} {vf : Value} {L : List Cv} {xs ys : List Nat} {W : World} (h : Fi k base vf L xs ys W) {b off : Nat} (e : k.A = some ⟨b, off, none⟩) {q : Nat} (hq : q < k.l.length) : NdAt W b (off + q * 5) (at_ k.l q) := by
 obtain ⟨b', off', e', _, hc⟩ := h.ns.at_ (by omega)
 rw [e] at e'
 cases e'
 exact hc q hq
theorem ViJ.step {k : FK} {base m p : Nat} {x : Nd} {vf : Value} {L : List Cv} {xs ys : List Nat} {w : World} {j : Nat} {vf' v7 : Value} {M M2 : List Cv} {xs' ys' xs5 ys5 xs7 ys7 : List Nat} {W w6 w7 : World} {t : Tr} (h : ViJ k base m x vf L xs ys w j vf' M xs' ys' W) (h0 : Fi k base vf L xs ys w)
  (hj : j < 4) (hp : p + 1 = m) (ht : kidT (dens k.l) x.lv (x.kid j) = t) (k6 : Ky (FiP k vf') W w6)
  (ex : val xs5 / 2 ^ m = 2 * (val xs' / 2 ^ (m + 1)) + j % 2) (ey : val ys5 / 2 ^ m = 2 * (val ys' / 2 ^ (m + 1)) + j / 2)
  (f7 : Fi k base v7 (L ++ M ++ M2) xs7 ys7 w7) (mm : M2.map Cv.cl = listT t (corX k p xs5) (corX k p ys5)) (x7 : val xs7 / 2 ^ (p + 1) = val xs5 / 2 ^ (p + 1)) (y7 : val ys7 / 2 ^ (p + 1) = val ys5 / 2 ^ (p + 1))
  (vb : ∀ q, v7.ownBlock = some q → vf'.ownBlock = some q ∨ w6.heap.size ≤ q) (k7 : Ky (FiP k vf') w6 w7) : ViJ k base m x vf L xs ys w (j + 1) v7 (M ++ M2) xs7 ys7 w7 := by
 rw [hp] at x7 y7
 have ax : val xs5 / 2 ^ m = 2 * (val xs / 2 ^ (m + 1)) + j % 2 := by rw [ex, h.xx]
 have ay : val ys5 / 2 ^ m = 2 * (val ys / 2 ^ (m + 1)) + j / 2 := by rw [ey, h.yy]
 have hoff := h.off h0
 have hl6 : w.heap.size < w6.heap.size := Nat.lt_of_lt_of_le h.nb.lt k6.size
 refine ⟨by rw [← List.append_assoc]; exact f7, ?_, ?_, ?_, fun q hq => ?_, (h.ky.trans k6 h.old).trans k7 h.old, h.nb.stay ((k7.block _ hl6 hoff).trans (k6.block _ h.nb.lt hoff))⟩
 ·
  rw [List.map_append, h.mm, mm]
  show _ = listK k.l x m _ _ j ++ listT (kidT (dens k.l) x.lv (x.kid j)) _ _
  rw [ht]
  unfold corX
  rw [hp, ax, ay, off_x m _ _ hj, off_y m _ _ hj]
 ·
  exact half_div _ _ (by omega) (x7.trans ax)
 ·
  exact half_div _ _ (by omega) (y7.trans ay)
 ·
  rcases vb q hq with h1 | h1
  ·
   exact h.vb q h1
  ·
   exact .inr (by omega)
theorem midX {k : FK} {base : Nat} {vf : Value} {L : List Cv} {xs ys : List Nat} (n : Nat) (w : World) (h : Fi k base vf L xs ys w) (hn : n = k.n) (hn9 : k.n ≤ 1000) (hhl : k.hs.length ≤ 1000) (hh : k.hs ≠ []) (hc : Canon k.hs) :
  Calls Tryz.prog 71 #[.pointer (some ⟨k.fb, 0, none⟩), .slice (some ⟨k.gx, 0, none⟩) n n] w (RetIF ((val xs : Int) - val k.hs) w) := by
 subst hn
 obtain ⟨⟨a0, a1, a2, a3, a4, a5⟩, a6⟩ := h.cells
 exact middle_any k.fb _ _ _ _ _ xs k.hs w h.x.reads h.x.2.1 (by omega) h.us (by omega) hh hc a1 a2
theorem midY {k : FK} {base : Nat} {vf : Value} {L : List Cv} {xs ys : List Nat} (n : Nat) (w : World) (h : Fi k base vf L xs ys w) (hn : n = k.n) (hn9 : k.n ≤ 1000) (hhl : k.hs.length ≤ 1000) (hh : k.hs ≠ []) (hc : Canon k.hs) :
  Calls Tryz.prog 71 #[.pointer (some ⟨k.fb, 0, none⟩), .slice (some ⟨k.gy, 0, none⟩) n n] w (RetIF ((val ys : Int) - val k.hs) w) := by
 subst hn
 obtain ⟨⟨a0, a1, a2, a3, a4, a5⟩, a6⟩ := h.cells
 exact middle_any k.fb _ _ _ _ _ ys k.hs w h.y.reads h.y.2.1 (by omega) h.us (by omega) hh hc a1 a2
theorem fi_s {k : FK} {base : Nat} {vf : Value} {L : List Cv} {xs ys : List Nat} {w : World} (h : Fi k base vf L xs ys w) {n : Nat} (hn : n = k.n) :
  w.cell? ⟨k.fb, 3, none⟩ = some (.slice (some ⟨k.gx, 0, none⟩) n n) ∧ w.cell? ⟨k.fb, 4, none⟩ = some (.slice (some ⟨k.gy, 0, none⟩) n n) := by
 subst hn
 exact ⟨h.cells.1.2.2.2.1, h.cells.1.2.2.2.2.1⟩
theorem fj_s {k : FK} {base : Nat} {vf vo : Value} {L : List Cv} {xs ys : List Nat} {w : World} (h : Fj k base vf vo L xs ys w) {n : Nat} (hn : n = k.n) :
  w.cell? ⟨k.fb, 3, none⟩ = some (.slice (some ⟨k.gx, 0, none⟩) n n) ∧ w.cell? ⟨k.fb, 4, none⟩ = some (.slice (some ⟨k.gy, 0, none⟩) n n) := by
 subst hn
 exact ⟨by rw [cell_of_row w k.fb _ _ _ _ h.bx]; rfl, by rw [cell_of_row w k.fb _ _ _ _ h.bx]; rfl⟩
theorem len_mid {s : Bool} {r xs hs : List Nat} (hc : CanonI s r) (hv : ival s r = (val xs : Int) - val hs) (dx : Dig xs) (dh : Dig hs) (hx : xs.length ≤ 1000) (hh : hs.length ≤ 1000) : r.length ≤ 1000 := by
 refine len_ival hc hv 1000 ?_
 obtain ⟨K, hK⟩ : ∃ K, K = 1000 := ⟨_, rfl⟩
 rw [← hK] at hx hh ⊢
 have h1 := Nat.lt_of_lt_of_le (val_lt dx) (Nat.pow_le_pow_right (by decide) hx)
 have h2 := Nat.lt_of_lt_of_le (val_lt dh) (Nat.pow_le_pow_right (by decide) hh)
 generalize 4294967296 ^ K = Q at *
 omega
theorem leaf_more {k : FK} {base : Nat} {vf v4 : Value} {L : List Cv} {xs ys : List Nat} {W0 W1 W2 W3 W4 : World} {s1 s2 : Bool} {A1 A2 : Option Addr} {c1 c2 yn : Nat} {r1 r2 : List Nat} (h0 : Fi k base vf L xs ys W0) (h3 : Fi k base vf L xs ys W3) (b03 : Below W0.heap.size W0 W3) (b01 : Below W0.heap.size W0 W1) (b13 : Below W1.heap.size W1 W3)
  (u1 : Us W1 A1 c1 r1) (k1 : CanonI s1 r1) (v1 : ival s1 r1 = (val xs : Int) - val k.hs) (f1 : FrU W0.heap.size A1) (u2 : Us W2 A2 c2 r2) (b23 : Below W2.heap.size W2 W3) (k2 : CanonI s2 r2) (v2 : ival s2 r2 = (val ys : Int) - val k.hs) (f2 : FrU W1.heap.size A2)
  (hx : xs.length ≤ 1000) (hy : ys.length ≤ 1000) (hhl : k.hs.length ≤ 1000) (hyn : yn ≤ 255) (hf : OwnC W4 base v4 (L ++ [⟨s1, A1, c1, r1, s2, A2, c2, r2, yn⟩])) (hg : W3.grownBy W4 vf.ownBlock) (hat : v4.ownBlock = vf.ownBlock ∨ v4.ownBlock = some W3.heap.size) :
  Fj k base v4 vf (L ++ [⟨s1, A1, c1, r1, s2, A2, c2, r2, yn⟩]) xs ys W4 :=
 h3.more ⟨u1.below b13, u2.below b23, hyn⟩ ⟨k1, k2, Nat.le_trans (len_mid k1 v1 h0.x.1 h0.us.1 hx hhl) (by decide), Nat.le_trans (len_mid k2 v2 h0.y.1 h0.us.1 hy hhl) (by decide)⟩
  (fun q hq => ⟨fun _ a ea => by have h1 := f1 a ea; have h2 := h0.ltP hq; omega, fun _ a ea => by have h1 := f2 a ea; have h2 := h0.ltP hq; have h3 := b01.size; omega⟩) hf hg hat
theorem leaf_ky {k : FK} {base : Nat} {vf : Value} {L : List Cv} {xs ys : List Nat} {W W0 W1 W2 W3 W4 : World} (h : Fi k base vf L xs ys W0) (b1 : Below W0.heap.size W0 W1) (b2 : Below W1.heap.size W1 W2) (b3 : Below W2.heap.size W2 W3) (hg : W3.grownBy W4 vf.ownBlock) (ky : Ky (FiP k vf) W W0) (v4 : Value) : Ky (FiP k vf) W (W4.setCell ⟨k.fb, 5, none⟩ v4) :=
 ((((ky.below b1).below b2).below b3).gb hg (fun q _ e => .inr (.inr (.inr e)))).set _ (fun _ => .inl rfl) _
theorem ViJ.leaf {k : FK} {base m : Nat} {x : Nd} {vf : Value} {L : List Cv} {xs ys : List Nat} {w : World} {j yn : Nat} {vf' v7 : Value} {M : List Cv} {xs' ys' xs5 ys5 : List Nat} {W W0 W3 w7 : World} {s1 s2 : Bool} {A1 A2 : Option Addr} {c1 c2 : Nat} {r1 r2 : List Nat} (h : ViJ k base m x vf L xs ys w j vf' M xs' ys' W) (h0 : Fi k base vf L xs ys w)
  (hj : j < 4) (hm : m = 0) (hx : x.lv = (m : Int) + 1) (hy : (yn : Int) = x.kid j) (hyp : 1 ≤ yn) (k6 : Ky (FiP k vf') W W0)
  (ex : val xs5 / 2 ^ m = 2 * (val xs' / 2 ^ (m + 1)) + j % 2) (ey : val ys5 / 2 ^ m = 2 * (val ys' / 2 ^ (m + 1)) + j / 2)
  (f7 : Fi k base v7 (L ++ M ++ [⟨s1, A1, c1, r1, s2, A2, c2, r2, yn⟩]) xs5 ys5 w7) (v1 : ival s1 r1 = (val xs5 : Int) - val k.hs) (v2 : ival s2 r2 = (val ys5 : Int) - val k.hs)
  (hat : v7.ownBlock = vf'.ownBlock ∨ v7.ownBlock = some W3.heap.size) (hs : W0.heap.size ≤ W3.heap.size) (k7 : Ky (FiP k vf') W0 w7) : ViJ k base m x vf L xs ys w (j + 1) v7 (M ++ [⟨s1, A1, c1, r1, s2, A2, c2, r2, yn⟩]) xs5 ys5 w7 := by
 subst hm
 have ax : val xs5 / 2 ^ 0 = 2 * (val xs / 2 ^ 1) + j % 2 := by rw [ex, h.xx]
 have ay : val ys5 / 2 ^ 0 = 2 * (val ys / 2 ^ 1) + j / 2 := by rw [ey, h.yy]
 have hoff := h.off h0
 have hl6 : w.heap.size < W0.heap.size := Nat.lt_of_lt_of_le h.nb.lt k6.size
 refine ⟨by rw [← List.append_assoc]; exact f7, ?_, half_div _ _ (by omega) ax, half_div _ _ (by omega) ay, fun q hq => ?_, (h.ky.trans k6 h.old).trans k7 h.old, h.nb.stay ((k7.block _ hl6 hoff).trans (k6.block _ h.nb.lt hoff))⟩
 ·
  rw [List.map_append, h.mm]
  show _ ++ [_] = listK k.l x 0 _ _ j ++ listT (kidT (dens k.l) x.lv (x.kid j)) _ _
  have e1 : x.lv = 1 := by omega
  rw [← hy, e1, kid_leaf k.l (by omega)]
  show _ ++ [_] = _ ++ [_]
  congr 2
  have o1 := off_x 0 (val xs / 2 ^ 1) (val k.hs) hj
  have o2 := off_y 0 (val ys / 2 ^ 1) (val k.hs) hj
  rw [← ax, p2_zero, Int.mul_one, Nat.pow_zero, Nat.div_one] at o1
  rw [← ay, p2_zero, Int.mul_one, Nat.pow_zero, Nat.div_one] at o2
  unfold corX
  rw [p2_zero] at *
  exact Cl.ext' (v1.trans o1) (v2.trans o2) rfl
 ·
  rcases hat with h1 | h1
  ·
   exact h.vb q (h1.symm.trans hq)
  ·
   have := Option.some.inj (h1.symm.trans hq)
   exact .inr (by omega)
set_option maxRecDepth 100000 in
set_option maxHeartbeats 3200000 in
theorem fvisit_rec (k : FK) (base : Nat) (hl : looseB k.l = true) (hh : k.hs ≠ []) (hc : Canon k.hs) (hhl : k.hs.length ≤ 1000) (hn9 : k.n ≤ 1000) : ∀ (m : Nat) (x : Nd) (vf : Value) (L : List Cv) (xs ys : List Nat) (w : World), m ≤ 1328 → x.lv = (m : Int) + 1 → fitB k.l x = true → m / 32 < k.n → L.length + countT (norm (dens k.l) x) ≤ 900000 → base ≤ w.heap.size → Fi k base vf L xs ys w →
  Calls Tryz.prog 42 #[.pointer (some ⟨k.fb, 0, none⟩), ndv x] w (RetVi k base m (norm (dens k.l) x) vf L xs ys w) := by
 intro m
 induction m using Nat.strongRecOn with
 | _ m ih =>
  intro x vf L xs ys w hm hx hf hi hlen hbase h
  have hbw : Below w.heap.size w (w.alloc (.cells #[.int .i64 x.lv, .int .i64 x.a, .int .i64 x.b, .int .i64 x.c, .int .i64 x.d] 56)) := (Below.refl _ w).alloc (Nat.le_refl _) _
  have S0 := Lib.hid (show ViJ k base m x vf L xs ys w 0 vf [] xs ys (w.alloc (.cells #[.int .i64 x.lv, .int .i64 x.a, .int .i64 x.b, .int .i64 x.c, .int .i64 x.d] 56)) from
   ⟨by rw [List.append_nil]; exact h.next hbw, rfl, rfl, rfl, fun q hq => .inl hq, (Ky.refl _ w).below hbw, NdBox.new w x⟩)
  have H0 := Lib.hid h
  have HF := Lib.hid hf
  have HX := Lib.hid hx
  have HLL := Lib.hid hl
  have HLEN := Lib.hid hlen
  have IH := Lib.hid ih
  have HI := Lib.hid hi
  obtain ⟨n0, hn0⟩ : ∃ n, n = k.l.length := ⟨_, rfl⟩
  obtain ⟨h0, hh0⟩ : ∃ n, n = k.hs.length := ⟨_, rfl⟩
  obtain ⟨n1, hn1⟩ : ∃ n, n = k.n := ⟨_, rfl⟩
  have HN0 := Lib.hid hn0
  have HH0 := Lib.hid hh0
  have HN1 := Lib.hid hn1
  clear h hf hx hl hlen ih hi hbw hn0 hh0 hn1
  go_enter Tryz.func42, Tryz.ntmps42
  go_wp2_with fail
  go_loopw [8] (fun z wr => ∃ (j : Nat) (vf' : Value) (M : List Cv) (xs' ys' : List Nat), j ≤ 4 ∧ z = .int .i64 j ∧ ViJ k base m x vf L xs ys w j vf' M xs' ys' wr) (fun z _ => 4 - (intOf z).toNat)
  case atStart => exact ⟨0, _, _, _, _, by omega, rfl, S0.out⟩
  case round =>
   obtain ⟨j, vf', M, xs', ys', hj, rfl, R⟩ := hrel
   by_cases hlt : j < 4
   ·
    have hi4 := index4 x j hlt
    have hfk := fit_kid HF.out hlt
    obtain ⟨y, hy⟩ : ∃ y, y = x.kid j := ⟨_, rfl⟩
    rw [← hy] at hi4 hfk
    have HY := Lib.hid hy
    have HFK := Lib.hid hfk
    have RR := Lib.hid R
    clear hy hfk
    by_cases hy0 : y = 0
    ·
     subst hy0
     clear R
     go_wp2_with fail
     go_roundw
     case rel => exact ⟨j + 1, vf', M, xs', ys', by omega, by go_num, RR.out.fi, by rw [listK_none _ _ _ _ _ HY.out.symm]; exact RR.out.mm, RR.out.xx, RR.out.yy, RR.out.vb, RR.out.ky, RR.out.nb⟩
     case measure => simp [intOf]; omega
    ·
     have t0 : (y == 0) = false := beq_eq_false_iff_ne.2 hy0
     have HY0 := Lib.hid hy0
     obtain ⟨⟨a0, a1, a2, a3, a4, a5⟩, a6⟩ := R.fi.cells
     rw [← HN0.out] at a0
     rw [← HH0.out] at a2
     rw [← HN1.out] at a3 a4
     obtain ⟨b0, -, -, -, -⟩ := R.nb.at_
     rw [HX.out] at b0
     have i1 : IntKind.i64.wrap ((m : Int) + 1 - 1) = (m : Int) := by rw [show (m : Int) + 1 - 1 = (m : Int) by omega]; simp [IntKind.wrap, IntKind.bits, IntKind.signed]; omega
     have i2 : IntKind.i64.wrap (m : Int) = (m : Int) := by simp [IntKind.wrap, IntKind.bits, IntKind.signed]; omega
     obtain ⟨jx, hjx⟩ : ∃ q, q = j % 2 := ⟨_, rfl⟩
     obtain ⟨jy, hjy⟩ : ∃ q, q = j / 2 := ⟨_, rfl⟩
     have hx2 : jx < 2 := by omega
     have hy2 : jy < 2 := by omega
     have i3 : (j : Int).tmod 2 = (jx : Int) := by rw [Int.tmod_eq_emod_of_nonneg (by omega)]; omega
     have i4 : (j : Int).tdiv 2 = (jy : Int) := by rw [Int.tdiv_eq_ediv_of_nonneg (by omega)]; omega
     have i5 : IntKind.i64.wrap (jx : Int) = (jx : Int) := by simp [IntKind.wrap, IntKind.bits, IntKind.signed]; omega
     have i6 : IntKind.i64.wrap (jy : Int) = (jy : Int) := by simp [IntKind.wrap, IntKind.bits, IntKind.signed]; omega
     have i7 : (j : Int) % 2 = (jx : Int) := by omega
     have i8 : (j : Int) / 2 = (jy : Int) := by omega
     have HJX := Lib.hid hjx
     have HJY := Lib.hid hjy
     clear hjx hjy
     clear R hy0
     rcases Nat.eq_zero_or_pos m with hm0 | hm0
     case inl =>
      obtain ⟨yn, rfl⟩ : ∃ n : Nat, y = (n : Int) := by
       have h1 := HFK.out
       rw [HX.out, hm0, show ((0 : Nat) : Int) + 1 = 1 by omega, kidB_one, decide_eq_true_iff] at h1
       exact ⟨y.toNat, by omega⟩
      have HY255 := Lib.hid (show yn ≤ 255 by
       have h1 := HFK.out
       rw [HX.out, hm0, show ((0 : Nat) : Int) + 1 = 1 by omega, kidB_one, decide_eq_true_iff] at h1
       omega)
      have HYP := Lib.hid (show 1 ≤ yn by have := HY0.out; omega)
      have HM0 := Lib.hid hm0
      have HLL2 := Lib.hid (show (L ++ M).length + 1 ≤ 1000000 by
       have h1 := congrArg List.length RR.out.mm
       rw [List.length_map, listK_len] at h1
       have h2 := cntK_mono k.l x (4 - j) j
       rw [show j + (4 - j) = 4 by omega, cntK_four] at h2
       have h4 := HLEN.out
       rw [List.length_append]
       omega)
      have y1 : (0 : Int) ≤ (yn : Int) := by omega
      have y2 : (yn : Int) ≤ 255 := by have := HY255.out; omega
      have y3 : IntKind.u8.wrap (yn : Int) = (yn : Int) := by simp [IntKind.wrap, IntKind.bits, IntKind.signed]; omega
      have t1 : decide ((m : Int) + 1 > 1) = false := decide_eq_false (by omega)
      clear hm0
      go_wp2_with fail
      go_still_tail 9, (by kernel_rfl)
      change wpList _ _ _ _ _ wr.drew
      have F1 := Lib.hid (RR.out.fi.next (below_drewN (Below.refl _ wr) 1))
      have K1 := Lib.hid ((Ky.refl (FiP k vf') wr).below (below_drewN (Below.refl _ wr) 1))
      have NOB := Lib.hid (RR.out.off H0.out)
      clear a0 a1 a2 a3 a4 a5 a6 b0
      go_wp2_with (go_at_call 70; go_loud (refine (putX_fi m jx n1 _ F1.out HN1.out (by rw [HN1.out]; exact HI.out) hx2 (by rw [HN1.out]; exact hn9)).mono ?_; rintro e w5 ⟨rfl, xs5, f5, v5, ky5⟩; have F5 := Lib.hid f5; have V5 := Lib.hid v5; have K5 := Lib.hid (K1.out.trans ky5 (fun q _ h => h)); obtain ⟨⟨a0, a1, a2, a3, a4, a5⟩, a6⟩ := f5.cells; rw [← HN0.out] at a0; rw [← HH0.out] at a2; rw [← HN1.out] at a3 a4; obtain ⟨b0, -, -, -, -⟩ := (RR.out.nb.stay (K5.out.block w.heap.size RR.out.nb.lt NOB.out)).at_; rw [HX.out] at b0; clear f5 v5 ky5))
      go_still_tail 9, (by kernel_rfl)
      change wpList _ _ _ _ _ w5.drew
      have F5' := Lib.hid (F5.out.next (below_drewN (Below.refl _ w5) 1))
      have K5' := Lib.hid (K5.out.below (below_drewN (Below.refl _ w5) 1))
      clear a0 a1 a2 a3 a4 a5 a6 b0
      go_wp2_with (go_at_call 70; go_loud (refine (putY_fi m jy n1 _ F5'.out HN1.out (by rw [HN1.out]; exact HI.out) hy2 (by rw [HN1.out]; exact hn9)).mono ?_; rintro e w6 ⟨rfl, ys5, f6, v6, ky6⟩; have F6 := Lib.hid f6; have V6 := Lib.hid v6; have K6 := Lib.hid (K5'.out.trans ky6 (fun q _ h => h)); obtain ⟨⟨a0, a1, a2, a3, a4, a5⟩, a6⟩ := f6.cells; rw [← HN0.out] at a0; rw [← HH0.out] at a2; rw [← HN1.out] at a3 a4; obtain ⟨b0, -, -, -, -⟩ := (RR.out.nb.stay (K6.out.block w.heap.size RR.out.nb.lt NOB.out)).at_; rw [HX.out] at b0; clear f6 v6 ky6))
      -- the leaf
      refine wp_region_noPanic ?_
      refine wp_region_held (S := fun w' => w'.cell? ⟨k.fb, 3, none⟩ = some (.slice (some ⟨k.gx, 0, none⟩) n1 n1) ∧ w'.cell? ⟨k.fb, 4, none⟩ = some (.slice (some ⟨k.gy, 0, none⟩) n1 n1)) (by kernel_rfl) ?_
      obtain ⟨W0, hW0⟩ : ∃ W0 : World, W0 = w6.drew := ⟨_, rfl⟩
      have F0 := Lib.hid (show Fi k base vf' (L ++ M) xs5 ys5 W0 by rw [hW0]; exact F6.out.next (below_drewN (Below.refl _ w6) 1))
      have K0 := Lib.hid (show Ky (FiP k vf') wr W0 by rw [hW0]; exact K6.out.below (below_drewN (Below.refl _ w6) 1))
      have HW6 := Lib.hid (show w.heap.size ≤ W0.heap.size from Nat.le_trans RR.out.ky.size K0.out.size)
      have HS0 := Lib.hid (fi_s F0.out HN1.out)
      change wpAnyH _ _ _ _ _ _ _ _ w6.drew
      rw [← hW0]
      clear hW0 a0 a1 a2 a3 a4 a5 a6 b0
      refine wpAnyH_take (i := 0) (v := ?_) rfl (by kernel_rfl) (by kernel_rfl) (by kernel_rfl) (fun _ _ _ h => h) (Or.inl ⟨by rfl, ?_⟩) HS0.out ?_
      rotate_left
      ·
       rintro w' ⟨s1_, s2_⟩
       go_simp
       first | done | with_reducible rfl | rfl
      simp only [Act.put, LA]
      refine wpAnyH_take (i := 1) (v := ?_) rfl (by kernel_rfl) (by kernel_rfl) (by kernel_rfl) (fun _ _ _ h => h) (Or.inl ⟨by rfl, ?_⟩) HS0.out ?_
      rotate_left
      ·
       rintro w' ⟨s1_, s2_⟩
       go_simp
       first | done | with_reducible rfl | rfl
      simp only [Act.put, LA]
      refine wpAnyH_take (i := 2) (v := ?_) rfl (by kernel_rfl) (by kernel_rfl) (by kernel_rfl) (fun _ _ _ h => h) (Or.inl ⟨by rfl, ?_⟩) HS0.out ?_
      rotate_left
      ·
       rintro w' ⟨s1_, s2_⟩
       go_simp
       first | done | with_reducible rfl | rfl
      simp only [Act.put, LA]
      refine wpAnyH_take (i := 3) (v := ?_) rfl (by kernel_rfl) (by kernel_rfl) (by kernel_rfl) (fun _ _ _ h => h) (Or.inl ⟨by rfl, ?_⟩) HS0.out ?_
      rotate_left
      ·
       rintro w' ⟨s1_, s2_⟩
       go_simp
       first | done | with_reducible rfl | rfl
      simp only [Act.put, LA]
      refine wpAnyH_take (i := 5) (v := ?_) rfl (by kernel_rfl) (by kernel_rfl) (by kernel_rfl) (fun _ _ _ h => h) (Or.inl ⟨by rfl, ?_⟩) HS0.out ?_
      rotate_left
      ·
       rintro w' ⟨s1_, s2_⟩
       go_simp
       first | done | with_reducible rfl | rfl
      simp only [Act.put, LA]
      refine wpAnyH_take (i := 6) (v := ?_) rfl (by kernel_rfl) (by kernel_rfl) (by kernel_rfl) (fun _ _ _ h => h) (Or.inl ⟨by rfl, ?_⟩) HS0.out ?_
      rotate_left
      ·
       rintro w' ⟨s1_, s2_⟩
       go_simp
       first | done | with_reducible rfl | rfl
      simp only [Act.put, LA]
      refine wpAnyH_take (i := 7) (v := ?_) rfl (by kernel_rfl) (by kernel_rfl) (by kernel_rfl) (fun _ _ _ h => h) (Or.inl ⟨by rfl, ?_⟩) HS0.out ?_
      rotate_left
      ·
       rintro w' ⟨s1_, s2_⟩
       go_simp
       first | done | with_reducible rfl | rfl
      simp only [Act.put, LA]
      refine wpAnyH_take (i := 8) (v := ?_) rfl (by kernel_rfl) (by kernel_rfl) (by kernel_rfl) (fun _ _ _ h => h) (Or.inl ⟨by rfl, ?_⟩) HS0.out ?_
      rotate_left
      ·
       rintro w' ⟨s1_, s2_⟩
       go_simp
       first | done | with_reducible rfl | rfl
      simp only [Act.put, LA]
      refine wpAnyH_take (i := 9) (v := ?_) rfl (by kernel_rfl) (by kernel_rfl) (by kernel_rfl) (fun _ _ _ h => h) (Or.inl ⟨by rfl, ?_⟩) HS0.out ?_
      rotate_left
      ·
       rintro w' ⟨s1_, s2_⟩
       go_simp
       first | done | with_reducible rfl | rfl
      simp only [Act.put, LA]
      refine wpAnyH_take (i := 11) (v := ?_) rfl (by kernel_rfl) (by kernel_rfl) (by kernel_rfl) (fun _ _ _ h => h) (Or.inl ⟨by rfl, ?_⟩) HS0.out ?_
      rotate_left
      ·
       rintro w' ⟨s1_, s2_⟩
       go_simp
       first | done | with_reducible rfl | rfl
      simp only [Act.put, LA]
      refine wpAnyH_take (i := 12) (v := ?_) rfl (by kernel_rfl) (by kernel_rfl) (by kernel_rfl) (fun _ _ _ h => h) (Or.inl ⟨by rfl, ?_⟩) HS0.out ?_
      rotate_left
      ·
       rintro w' ⟨s1_, s2_⟩
       go_simp
       first | done | with_reducible rfl | rfl
      simp only [Act.put, LA]
      refine wpAnyH_take (i := 13) (v := ?_) rfl (by kernel_rfl) (by kernel_rfl) (by kernel_rfl) (fun _ _ _ h => h) (Or.inl ⟨by rfl, ?_⟩) HS0.out ?_
      rotate_left
      ·
       rintro w' ⟨s1_, s2_⟩
       go_simp
       first | done | with_reducible rfl | rfl
      simp only [Act.put, LA]
      refine wpAnyH_take (i := 14) (v := ?_) rfl (by kernel_rfl) (by kernel_rfl) (by kernel_rfl) (fun _ _ _ h => h) (Or.inl ⟨by rfl, ?_⟩) HS0.out ?_
      rotate_left
      ·
       rintro w' ⟨s1_, s2_⟩
       go_simp
       first | done | with_reducible rfl | rfl
      simp only [Act.put, LA]
      refine wpAnyH_take (i := 15) (v := ?_) rfl (by kernel_rfl) (by kernel_rfl) (by kernel_rfl) (fun _ _ _ h => h) (Or.inl ⟨by rfl, ?_⟩) HS0.out ?_
      rotate_left
      ·
       rintro w' ⟨s1_, s2_⟩
       go_simp
       first | done | with_reducible rfl | rfl
      simp only [Act.put, LA]
      refine wpAnyH_take (i := 17) (v := ?_) rfl (by kernel_rfl) (by kernel_rfl) (by kernel_rfl) (fun _ _ _ h => h) (Or.inl ⟨by rfl, ?_⟩) HS0.out ?_
      rotate_left
      ·
       rintro w' ⟨s1_, s2_⟩
       go_simp
       first | done | with_reducible rfl | rfl
      simp only [Act.put, LA]
      refine wpAnyH_take (i := 18) (v := ?_) rfl (by kernel_rfl) (by kernel_rfl) (by kernel_rfl) (fun _ _ _ h => h) (Or.inl ⟨by rfl, ?_⟩) HS0.out ?_
      rotate_left
      ·
       rintro w' ⟨s1_, s2_⟩
       go_simp
       first | done | with_reducible rfl | rfl
      simp only [Act.put, LA]
      refine wpAnyH_ready (rs := [4, 10]) (by kernel_rfl) (by simp) (AllReadyH.cons rfl (fun K hK => ?_) (AllReadyH.cons rfl (fun K hK => ?_) AllReadyH.nil))
      ·
       have q5 := F0.out.cells.1.2.2.2.2.2
       go_simp
       refine hK.out _ _ HS0.out (fun _ => ?_)
       clear hK K q5
       refine wpAnyH_ready (rs := [10]) (by kernel_rfl) (by simp) (AllReadyH.cons rfl (fun K hK => ?_) AllReadyH.nil)
       go_simp
       refine (midX n1 W0 F0.out HN1.out hn9 hhl hh hc).mono ?_
       rintro e W1 ⟨A1, c1, s1, r1, rfl, u1, k1, v1, b1, f1⟩
       dsimp only
       have F1 := Lib.hid (F0.out.next b1)
       have HS1 := Lib.hid (fi_s F1.out HN1.out)
       have U1 := Lib.hid u1
       have KK1 := Lib.hid k1
       have VV1 := Lib.hid v1
       have BB1 := Lib.hid b1
       have FF1 := Lib.hid f1
       refine hK.out _ _ HS1.out (fun _ => ?_)
       clear hK K u1 k1 v1 b1 f1
       refine wpAnyH_ready (rs := [16]) (by kernel_rfl) (by simp) (AllReadyH.cons rfl (fun K hK => ?_) AllReadyH.nil)
       go_simp
       refine (midY n1 W1 F1.out HN1.out hn9 hhl hh hc).mono ?_
       rintro e W2 ⟨A2, c2, s2, r2, rfl, u2, k2, v2, b2, f2⟩
       dsimp only
       have F2 := Lib.hid (F1.out.next b2)
       have HS2 := Lib.hid (fi_s F2.out HN1.out)
       have U2 := Lib.hid u2
       have KK2 := Lib.hid k2
       have VV2 := Lib.hid v2
       have BB2 := Lib.hid b2
       have FF2 := Lib.hid f2
       have hcap1 := U1.out.cap
       have hcap2 := u2.cap
       refine hK.out _ _ HS2.out (fun _ => ?_)
       clear hK K u2 k2 v2 b2 f2
       refine wpAnyH_take (i := 19) (v := ?_) rfl (by kernel_rfl) (by kernel_rfl) (by kernel_rfl) (fun _ _ _ h => h) (Or.inl ⟨by rfl, ?_⟩) HS2.out ?_
       rotate_left
       ·
        rintro w' ⟨s1_, s2_⟩
        go_simp
        first | done | with_reducible rfl | rfl
       simp only [Act.put, LA]
       refine wpAnyH_ready (rs := [20]) (by kernel_rfl) (by simp) (AllReadyH.cons rfl (fun K hK => ?_) AllReadyH.nil)
       go_simp
       obtain ⟨g3, hg3⟩ : ∃ g, g = W2.heap.size := ⟨_, rfl⟩
       obtain ⟨W3, hW3⟩ : ∃ Z : World, Z = W2.alloc (.cells #[.bool s1, .slice A1 r1.length c1, .bool s2, .slice A2 r2.length c2, .int .u8 (yn : Int)] 47) := ⟨_, rfl⟩
       have hbl := (Below.refl W2.heap.size W2).alloc (Nat.le_refl _) (.cells #[.bool s1, .slice A1 r1.length c1, .bool s2, .slice A2 r2.length c2, .int .u8 (yn : Int)] 47)
       have hN3 := cell_box W2 ⟨s1, A1, c1, r1, s2, A2, c2, r2, yn⟩
       rw [← hW3] at hbl
       have F3 := Lib.hid (F2.out.next hbl)
       have HS3 := Lib.hid (fi_s F3.out HN1.out)
       have BB3 := Lib.hid hbl
       have HN3 := Lib.hid (show ∀ j u, (cvcs [(⟨s1, A1, c1, r1, s2, A2, c2, r2, yn⟩ : Cv)])[j]? = some u → W3.cell? ((⟨g3, 0, none⟩ : Addr).add j) = some u by rw [hW3, hg3]; exact hN3)
       rw [← hg3, ← hW3]
       clear hg3 hW3 hbl hN3
       refine hK.out _ _ HS3.out (fun _ => ?_)
       clear hK K
       refine wpAnyH_ready (rs := [21]) (by kernel_rfl) (by simp) (AllReadyH.cons rfl (fun K hK => ?_) AllReadyH.nil)
       try rw [if_pos (by rfl)]
       refine oper_append_cell (.tmp 51) (.tmp 67) rfl base vf' (L ++ M) ⟨s1, A1, c1, r1, s2, A2, c2, r2, yn⟩ ⟨g3, 0, none⟩ 1 rfl rfl F3.out.f HN3.out HLL2.out (Nat.le_trans (Nat.le_trans hbase HW6.out) (Nat.le_trans BB1.out.size (Nat.le_trans BB2.out.size BB3.out.size))) ?_
       intro v4 W4 ho hgw hat
       simp only [Act.put, LA]
       obtain ⟨A4, c4, hv4, -, -, -, -⟩ := ho.shape
       obtain ⟨n4, hn4⟩ : ∃ n, n = (L ++ M ++ [(⟨s1, A1, c1, r1, s2, A2, c2, r2, yn⟩ : Cv)]).length := ⟨_, rfl⟩
       rw [← hn4] at hv4
       subst hv4
       have F4 := Lib.hid (leaf_more F0.out F3.out (BB1.out.trans ((BB2.out.trans (BB3.out.mono BB2.out.size)).mono BB1.out.size)) BB1.out (BB2.out.trans (BB3.out.mono BB2.out.size)) U1.out KK1.out VV1.out FF1.out U2.out BB3.out KK2.out VV2.out FF2.out (by rw [F0.out.x.2.1]; exact hn9) (by rw [F0.out.y.2.1]; exact hn9) hhl HY255.out ho hgw hat)
       have HG4 := Lib.hid hgw
       have HA4 := Lib.hid hat
       have hS4 := fj_s F4.out HN1.out
       refine hK.out _ _ hS4 (fun _ => ?_)
       clear hK K ho hgw hat hn4
       refine wpAnyH_take (i := 22) (v := ?_) rfl (by kernel_rfl) (by kernel_rfl) (by kernel_rfl) (fun _ _ _ h => h) (Or.inl ⟨by rfl, ?_⟩) hS4 ?_
       rotate_left
       ·
        rintro w' ⟨s1_, s2_⟩
        go_simp
        first | done | with_reducible rfl | rfl
       simp only [Act.put, LA]
       refine wpAnyH_take (i := 23) (v := ?_) rfl (by kernel_rfl) (by kernel_rfl) (by kernel_rfl) (fun _ _ _ h => h) (Or.inl ⟨by rfl, ?_⟩) hS4 ?_
       rotate_left
       ·
        rintro w' ⟨s1_, s2_⟩
        go_simp
        first | done | with_reducible rfl | rfl
       simp only [Act.put, LA]
       refine wpAnyH_ready (rs := [24]) (by kernel_rfl) (by simp) (AllReadyH.cons rfl (fun K hK => ?_) AllReadyH.nil)
       have e0 := F4.out.cells.1
       have e1 := F4.out.cells.2 5
       go_simp
       have F5 := Lib.hid F4.out.store
       have hS5 := fi_s F5.out HN1.out
       have K7 := Lib.hid (leaf_ky F0.out BB1.out BB2.out BB3.out HG4.out (Ky.refl (FiP k vf') W0) (.slice A4 n4 c4))
       refine hK.out _ _ hS5 (fun _ => ?_)
       clear hK K e0 e1
       refine wpAnyH_done (by kernel_rfl) ?_ _
       refine NoPanic.normal ?_
       go_wp2_with fail
       go_roundw
       case rel => exact ⟨j + 1, _, _, xs5, ys5, by omega, by go_num, RR.out.leaf H0.out hlt HM0.out HX.out HY.out HYP.out K0.out (by rw [V5.out, HJX.out]) (by rw [V6.out, HJY.out]) F5.out VV1.out VV2.out (HA4.out.imp id (fun h => h.trans (congrArg some rfl))) (Nat.le_trans BB1.out.size (Nat.le_trans BB2.out.size BB3.out.size)) K7.out⟩
       case measure => simp [intOf]; omega
      ·
       go_simp
       refine (midX n1 W0 F0.out HN1.out hn9 hhl hh hc).mono ?_
       rintro e W1 ⟨A1, c1, s1, r1, rfl, u1, k1, v1, b1, f1⟩
       dsimp only
       have F1 := Lib.hid (F0.out.next b1)
       have HS1 := Lib.hid (fi_s F1.out HN1.out)
       have U1 := Lib.hid u1
       have KK1 := Lib.hid k1
       have VV1 := Lib.hid v1
       have BB1 := Lib.hid b1
       have FF1 := Lib.hid f1
       refine hK.out _ _ HS1.out (fun _ => ?_)
       clear hK K u1 k1 v1 b1 f1
       refine wpAnyH_ready (rs := [4, 16]) (by kernel_rfl) (by simp) (AllReadyH.cons rfl (fun K hK => ?_) (AllReadyH.cons rfl (fun K hK => ?_) AllReadyH.nil))
       ·
        have q5 := F1.out.cells.1.2.2.2.2.2
        go_simp
        refine hK.out _ _ HS1.out (fun _ => ?_)
        clear hK K q5
        refine wpAnyH_ready (rs := [16]) (by kernel_rfl) (by simp) (AllReadyH.cons rfl (fun K hK => ?_) AllReadyH.nil)
        go_simp
        refine (midY n1 W1 F1.out HN1.out hn9 hhl hh hc).mono ?_
        rintro e W2 ⟨A2, c2, s2, r2, rfl, u2, k2, v2, b2, f2⟩
        dsimp only
        have F2 := Lib.hid (F1.out.next b2)
        have HS2 := Lib.hid (fi_s F2.out HN1.out)
        have U2 := Lib.hid u2
        have KK2 := Lib.hid k2
        have VV2 := Lib.hid v2
        have BB2 := Lib.hid b2
        have FF2 := Lib.hid f2
        have hcap1 := U1.out.cap
        have hcap2 := u2.cap
        refine hK.out _ _ HS2.out (fun _ => ?_)
        clear hK K u2 k2 v2 b2 f2
        refine wpAnyH_take (i := 19) (v := ?_) rfl (by kernel_rfl) (by kernel_rfl) (by kernel_rfl) (fun _ _ _ h => h) (Or.inl ⟨by rfl, ?_⟩) HS2.out ?_
        rotate_left
        ·
         rintro w' ⟨s1_, s2_⟩
         go_simp
         first | done | with_reducible rfl | rfl
        simp only [Act.put, LA]
        refine wpAnyH_ready (rs := [20]) (by kernel_rfl) (by simp) (AllReadyH.cons rfl (fun K hK => ?_) AllReadyH.nil)
        go_simp
        obtain ⟨g3, hg3⟩ : ∃ g, g = W2.heap.size := ⟨_, rfl⟩
        obtain ⟨W3, hW3⟩ : ∃ Z : World, Z = W2.alloc (.cells #[.bool s1, .slice A1 r1.length c1, .bool s2, .slice A2 r2.length c2, .int .u8 (yn : Int)] 47) := ⟨_, rfl⟩
        have hbl := (Below.refl W2.heap.size W2).alloc (Nat.le_refl _) (.cells #[.bool s1, .slice A1 r1.length c1, .bool s2, .slice A2 r2.length c2, .int .u8 (yn : Int)] 47)
        have hN3 := cell_box W2 ⟨s1, A1, c1, r1, s2, A2, c2, r2, yn⟩
        rw [← hW3] at hbl
        have F3 := Lib.hid (F2.out.next hbl)
        have HS3 := Lib.hid (fi_s F3.out HN1.out)
        have BB3 := Lib.hid hbl
        have HN3 := Lib.hid (show ∀ j u, (cvcs [(⟨s1, A1, c1, r1, s2, A2, c2, r2, yn⟩ : Cv)])[j]? = some u → W3.cell? ((⟨g3, 0, none⟩ : Addr).add j) = some u by rw [hW3, hg3]; exact hN3)
        rw [← hg3, ← hW3]
        clear hg3 hW3 hbl hN3
        refine hK.out _ _ HS3.out (fun _ => ?_)
        clear hK K
        refine wpAnyH_ready (rs := [21]) (by kernel_rfl) (by simp) (AllReadyH.cons rfl (fun K hK => ?_) AllReadyH.nil)
        try rw [if_pos (by rfl)]
        refine oper_append_cell (.tmp 51) (.tmp 67) rfl base vf' (L ++ M) ⟨s1, A1, c1, r1, s2, A2, c2, r2, yn⟩ ⟨g3, 0, none⟩ 1 rfl rfl F3.out.f HN3.out HLL2.out (Nat.le_trans (Nat.le_trans hbase HW6.out) (Nat.le_trans BB1.out.size (Nat.le_trans BB2.out.size BB3.out.size))) ?_
        intro v4 W4 ho hgw hat
        simp only [Act.put, LA]
        obtain ⟨A4, c4, hv4, -, -, -, -⟩ := ho.shape
        obtain ⟨n4, hn4⟩ : ∃ n, n = (L ++ M ++ [(⟨s1, A1, c1, r1, s2, A2, c2, r2, yn⟩ : Cv)]).length := ⟨_, rfl⟩
        rw [← hn4] at hv4
        subst hv4
        have F4 := Lib.hid (leaf_more F0.out F3.out (BB1.out.trans ((BB2.out.trans (BB3.out.mono BB2.out.size)).mono BB1.out.size)) BB1.out (BB2.out.trans (BB3.out.mono BB2.out.size)) U1.out KK1.out VV1.out FF1.out U2.out BB3.out KK2.out VV2.out FF2.out (by rw [F0.out.x.2.1]; exact hn9) (by rw [F0.out.y.2.1]; exact hn9) hhl HY255.out ho hgw hat)
        have HG4 := Lib.hid hgw
        have HA4 := Lib.hid hat
        have hS4 := fj_s F4.out HN1.out
        refine hK.out _ _ hS4 (fun _ => ?_)
        clear hK K ho hgw hat hn4
        refine wpAnyH_take (i := 22) (v := ?_) rfl (by kernel_rfl) (by kernel_rfl) (by kernel_rfl) (fun _ _ _ h => h) (Or.inl ⟨by rfl, ?_⟩) hS4 ?_
        rotate_left
        ·
         rintro w' ⟨s1_, s2_⟩
         go_simp
         first | done | with_reducible rfl | rfl
        simp only [Act.put, LA]
        refine wpAnyH_take (i := 23) (v := ?_) rfl (by kernel_rfl) (by kernel_rfl) (by kernel_rfl) (fun _ _ _ h => h) (Or.inl ⟨by rfl, ?_⟩) hS4 ?_
        rotate_left
        ·
         rintro w' ⟨s1_, s2_⟩
         go_simp
         first | done | with_reducible rfl | rfl
        simp only [Act.put, LA]
        refine wpAnyH_ready (rs := [24]) (by kernel_rfl) (by simp) (AllReadyH.cons rfl (fun K hK => ?_) AllReadyH.nil)
        have e0 := F4.out.cells.1
        have e1 := F4.out.cells.2 5
        go_simp
        have F5 := Lib.hid F4.out.store
        have hS5 := fi_s F5.out HN1.out
        have K7 := Lib.hid (leaf_ky F0.out BB1.out BB2.out BB3.out HG4.out (Ky.refl (FiP k vf') W0) (.slice A4 n4 c4))
        refine hK.out _ _ hS5 (fun _ => ?_)
        clear hK K e0 e1
        refine wpAnyH_done (by kernel_rfl) ?_ _
        refine NoPanic.normal ?_
        go_wp2_with fail
        go_roundw
        case rel => exact ⟨j + 1, _, _, xs5, ys5, by omega, by go_num, RR.out.leaf H0.out hlt HM0.out HX.out HY.out HYP.out K0.out (by rw [V5.out, HJX.out]) (by rw [V6.out, HJY.out]) F5.out VV1.out VV2.out (HA4.out.imp id (fun h => h.trans (congrArg some rfl))) (Nat.le_trans BB1.out.size (Nat.le_trans BB2.out.size BB3.out.size)) K7.out⟩
        case measure => simp [intOf]; omega
       ·
        go_simp
        refine (midY n1 W1 F1.out HN1.out hn9 hhl hh hc).mono ?_
        rintro e W2 ⟨A2, c2, s2, r2, rfl, u2, k2, v2, b2, f2⟩
        dsimp only
        have F2 := Lib.hid (F1.out.next b2)
        have HS2 := Lib.hid (fi_s F2.out HN1.out)
        have U2 := Lib.hid u2
        have KK2 := Lib.hid k2
        have VV2 := Lib.hid v2
        have BB2 := Lib.hid b2
        have FF2 := Lib.hid f2
        have hcap1 := U1.out.cap
        have hcap2 := u2.cap
        refine hK.out _ _ HS2.out (fun _ => ?_)
        clear hK K u2 k2 v2 b2 f2
        refine wpAnyH_take (i := 19) (v := ?_) rfl (by kernel_rfl) (by kernel_rfl) (by kernel_rfl) (fun _ _ _ h => h) (Or.inl ⟨by rfl, ?_⟩) HS2.out ?_
        rotate_left
        ·
         rintro w' ⟨s1_, s2_⟩
         go_simp
         first | done | with_reducible rfl | rfl
        simp only [Act.put, LA]
        refine wpAnyH_ready (rs := [4, 20]) (by kernel_rfl) (by simp) (AllReadyH.cons rfl (fun K hK => ?_) (AllReadyH.cons rfl (fun K hK => ?_) AllReadyH.nil))
        ·
         have q5 := F2.out.cells.1.2.2.2.2.2
         go_simp
         refine hK.out _ _ HS2.out (fun _ => ?_)
         clear hK K q5
         refine wpAnyH_ready (rs := [20]) (by kernel_rfl) (by simp) (AllReadyH.cons rfl (fun K hK => ?_) AllReadyH.nil)
         go_simp
         obtain ⟨g3, hg3⟩ : ∃ g, g = W2.heap.size := ⟨_, rfl⟩
         obtain ⟨W3, hW3⟩ : ∃ Z : World, Z = W2.alloc (.cells #[.bool s1, .slice A1 r1.length c1, .bool s2, .slice A2 r2.length c2, .int .u8 (yn : Int)] 47) := ⟨_, rfl⟩
         have hbl := (Below.refl W2.heap.size W2).alloc (Nat.le_refl _) (.cells #[.bool s1, .slice A1 r1.length c1, .bool s2, .slice A2 r2.length c2, .int .u8 (yn : Int)] 47)
         have hN3 := cell_box W2 ⟨s1, A1, c1, r1, s2, A2, c2, r2, yn⟩
         rw [← hW3] at hbl
         have F3 := Lib.hid (F2.out.next hbl)
         have HS3 := Lib.hid (fi_s F3.out HN1.out)
         have BB3 := Lib.hid hbl
         have HN3 := Lib.hid (show ∀ j u, (cvcs [(⟨s1, A1, c1, r1, s2, A2, c2, r2, yn⟩ : Cv)])[j]? = some u → W3.cell? ((⟨g3, 0, none⟩ : Addr).add j) = some u by rw [hW3, hg3]; exact hN3)
         rw [← hg3, ← hW3]
         clear hg3 hW3 hbl hN3
         refine hK.out _ _ HS3.out (fun _ => ?_)
         clear hK K
         refine wpAnyH_ready (rs := [21]) (by kernel_rfl) (by simp) (AllReadyH.cons rfl (fun K hK => ?_) AllReadyH.nil)
         try rw [if_pos (by rfl)]
         refine oper_append_cell (.tmp 51) (.tmp 67) rfl base vf' (L ++ M) ⟨s1, A1, c1, r1, s2, A2, c2, r2, yn⟩ ⟨g3, 0, none⟩ 1 rfl rfl F3.out.f HN3.out HLL2.out (Nat.le_trans (Nat.le_trans hbase HW6.out) (Nat.le_trans BB1.out.size (Nat.le_trans BB2.out.size BB3.out.size))) ?_
         intro v4 W4 ho hgw hat
         simp only [Act.put, LA]
         obtain ⟨A4, c4, hv4, -, -, -, -⟩ := ho.shape
         obtain ⟨n4, hn4⟩ : ∃ n, n = (L ++ M ++ [(⟨s1, A1, c1, r1, s2, A2, c2, r2, yn⟩ : Cv)]).length := ⟨_, rfl⟩
         rw [← hn4] at hv4
         subst hv4
         have F4 := Lib.hid (leaf_more F0.out F3.out (BB1.out.trans ((BB2.out.trans (BB3.out.mono BB2.out.size)).mono BB1.out.size)) BB1.out (BB2.out.trans (BB3.out.mono BB2.out.size)) U1.out KK1.out VV1.out FF1.out U2.out BB3.out KK2.out VV2.out FF2.out (by rw [F0.out.x.2.1]; exact hn9) (by rw [F0.out.y.2.1]; exact hn9) hhl HY255.out ho hgw hat)
         have HG4 := Lib.hid hgw
         have HA4 := Lib.hid hat
         have hS4 := fj_s F4.out HN1.out
         refine hK.out _ _ hS4 (fun _ => ?_)
         clear hK K ho hgw hat hn4
         refine wpAnyH_take (i := 22) (v := ?_) rfl (by kernel_rfl) (by kernel_rfl) (by kernel_rfl) (fun _ _ _ h => h) (Or.inl ⟨by rfl, ?_⟩) hS4 ?_
         rotate_left
         ·
          rintro w' ⟨s1_, s2_⟩
          go_simp
          first | done | with_reducible rfl | rfl
         simp only [Act.put, LA]
         refine wpAnyH_take (i := 23) (v := ?_) rfl (by kernel_rfl) (by kernel_rfl) (by kernel_rfl) (fun _ _ _ h => h) (Or.inl ⟨by rfl, ?_⟩) hS4 ?_
         rotate_left
         ·
          rintro w' ⟨s1_, s2_⟩
          go_simp
          first | done | with_reducible rfl | rfl
         simp only [Act.put, LA]
         refine wpAnyH_ready (rs := [24]) (by kernel_rfl) (by simp) (AllReadyH.cons rfl (fun K hK => ?_) AllReadyH.nil)
         have e0 := F4.out.cells.1
         have e1 := F4.out.cells.2 5
         go_simp
         have F5 := Lib.hid F4.out.store
         have hS5 := fi_s F5.out HN1.out
         have K7 := Lib.hid (leaf_ky F0.out BB1.out BB2.out BB3.out HG4.out (Ky.refl (FiP k vf') W0) (.slice A4 n4 c4))
         refine hK.out _ _ hS5 (fun _ => ?_)
         clear hK K e0 e1
         refine wpAnyH_done (by kernel_rfl) ?_ _
         refine NoPanic.normal ?_
         go_wp2_with fail
         go_roundw
         case rel => exact ⟨j + 1, _, _, xs5, ys5, by omega, by go_num, RR.out.leaf H0.out hlt HM0.out HX.out HY.out HYP.out K0.out (by rw [V5.out, HJX.out]) (by rw [V6.out, HJY.out]) F5.out VV1.out VV2.out (HA4.out.imp id (fun h => h.trans (congrArg some rfl))) (Nat.le_trans BB1.out.size (Nat.le_trans BB2.out.size BB3.out.size)) K7.out⟩
         case measure => simp [intOf]; omega
        ·
         go_simp
         obtain ⟨g3, hg3⟩ : ∃ g, g = W2.heap.size := ⟨_, rfl⟩
         obtain ⟨W3, hW3⟩ : ∃ Z : World, Z = W2.alloc (.cells #[.bool s1, .slice A1 r1.length c1, .bool s2, .slice A2 r2.length c2, .int .u8 (yn : Int)] 47) := ⟨_, rfl⟩
         have hbl := (Below.refl W2.heap.size W2).alloc (Nat.le_refl _) (.cells #[.bool s1, .slice A1 r1.length c1, .bool s2, .slice A2 r2.length c2, .int .u8 (yn : Int)] 47)
         have hN3 := cell_box W2 ⟨s1, A1, c1, r1, s2, A2, c2, r2, yn⟩
         rw [← hW3] at hbl
         have F3 := Lib.hid (F2.out.next hbl)
         have HS3 := Lib.hid (fi_s F3.out HN1.out)
         have BB3 := Lib.hid hbl
         have HN3 := Lib.hid (show ∀ j u, (cvcs [(⟨s1, A1, c1, r1, s2, A2, c2, r2, yn⟩ : Cv)])[j]? = some u → W3.cell? ((⟨g3, 0, none⟩ : Addr).add j) = some u by rw [hW3, hg3]; exact hN3)
         rw [← hg3, ← hW3]
         clear hg3 hW3 hbl hN3
         refine hK.out _ _ HS3.out (fun _ => ?_)
         clear hK K
         refine wpAnyH_ready (rs := [4]) (by kernel_rfl) (by simp) (AllReadyH.cons rfl (fun K hK => ?_) AllReadyH.nil)
         have q5 := F3.out.cells.1.2.2.2.2.2
         go_simp
         refine hK.out _ _ HS3.out (fun _ => ?_)
         clear hK K q5
         refine wpAnyH_ready (rs := [21]) (by kernel_rfl) (by simp) (AllReadyH.cons rfl (fun K hK => ?_) AllReadyH.nil)
         try rw [if_pos (by rfl)]
         refine oper_append_cell (.tmp 51) (.tmp 67) rfl base vf' (L ++ M) ⟨s1, A1, c1, r1, s2, A2, c2, r2, yn⟩ ⟨g3, 0, none⟩ 1 rfl rfl F3.out.f HN3.out HLL2.out (Nat.le_trans (Nat.le_trans hbase HW6.out) (Nat.le_trans BB1.out.size (Nat.le_trans BB2.out.size BB3.out.size))) ?_
         intro v4 W4 ho hgw hat
         simp only [Act.put, LA]
         obtain ⟨A4, c4, hv4, -, -, -, -⟩ := ho.shape
         obtain ⟨n4, hn4⟩ : ∃ n, n = (L ++ M ++ [(⟨s1, A1, c1, r1, s2, A2, c2, r2, yn⟩ : Cv)]).length := ⟨_, rfl⟩
         rw [← hn4] at hv4
         subst hv4
         have F4 := Lib.hid (leaf_more F0.out F3.out (BB1.out.trans ((BB2.out.trans (BB3.out.mono BB2.out.size)).mono BB1.out.size)) BB1.out (BB2.out.trans (BB3.out.mono BB2.out.size)) U1.out KK1.out VV1.out FF1.out U2.out BB3.out KK2.out VV2.out FF2.out (by rw [F0.out.x.2.1]; exact hn9) (by rw [F0.out.y.2.1]; exact hn9) hhl HY255.out ho hgw hat)
         have HG4 := Lib.hid hgw
         have HA4 := Lib.hid hat
         have hS4 := fj_s F4.out HN1.out
         refine hK.out _ _ hS4 (fun _ => ?_)
         clear hK K ho hgw hat hn4
         refine wpAnyH_take (i := 22) (v := ?_) rfl (by kernel_rfl) (by kernel_rfl) (by kernel_rfl) (fun _ _ _ h => h) (Or.inl ⟨by rfl, ?_⟩) hS4 ?_
         rotate_left
         ·
          rintro w' ⟨s1_, s2_⟩
          go_simp
          first | done | with_reducible rfl | rfl
         simp only [Act.put, LA]
         refine wpAnyH_take (i := 23) (v := ?_) rfl (by kernel_rfl) (by kernel_rfl) (by kernel_rfl) (fun _ _ _ h => h) (Or.inl ⟨by rfl, ?_⟩) hS4 ?_
         rotate_left
         ·
          rintro w' ⟨s1_, s2_⟩
          go_simp
          first | done | with_reducible rfl | rfl
         simp only [Act.put, LA]
         refine wpAnyH_ready (rs := [24]) (by kernel_rfl) (by simp) (AllReadyH.cons rfl (fun K hK => ?_) AllReadyH.nil)
         have e0 := F4.out.cells.1
         have e1 := F4.out.cells.2 5
         go_simp
         have F5 := Lib.hid F4.out.store
         have hS5 := fi_s F5.out HN1.out
         have K7 := Lib.hid (leaf_ky F0.out BB1.out BB2.out BB3.out HG4.out (Ky.refl (FiP k vf') W0) (.slice A4 n4 c4))
         refine hK.out _ _ hS5 (fun _ => ?_)
         clear hK K e0 e1
         refine wpAnyH_done (by kernel_rfl) ?_ _
         refine NoPanic.normal ?_
         go_wp2_with fail
         go_roundw
         case rel => exact ⟨j + 1, _, _, xs5, ys5, by omega, by go_num, RR.out.leaf H0.out hlt HM0.out HX.out HY.out HYP.out K0.out (by rw [V5.out, HJX.out]) (by rw [V6.out, HJY.out]) F5.out VV1.out VV2.out (HA4.out.imp id (fun h => h.trans (congrArg some rfl))) (Nat.le_trans BB1.out.size (Nat.le_trans BB2.out.size BB3.out.size)) K7.out⟩
         case measure => simp [intOf]; omega
      -- the leaf's end
     have t1 : decide ((m : Int) + 1 > 1) = true := decide_eq_true (by omega)
     obtain ⟨q, rfl, hq, hql⟩ : ∃ q : Nat, y = (q : Int) + 1 ∧ q < n0 ∧ (at_ k.l q).lv = (m : Int) := by
      rcases kid_up (by rw [HX.out]; omega) HFK.out with h | ⟨q, h1, h2, h3⟩
      ·
       exact absurd h HY0.out
      ·
       exact ⟨q, h1, by rw [HN0.out]; exact h2, by rw [h3, HX.out]; omega⟩
     obtain ⟨p, hp⟩ : ∃ p, p + 1 = m := ⟨m - 1, by omega⟩
     obtain ⟨b, off, eA, -, -⟩ := RR.out.fi.ns.at_ (by rw [← HN0.out]; omega)
     obtain ⟨x', hx'⟩ : ∃ x', x' = at_ k.l q := ⟨_, rfl⟩
     rw [← hx'] at hql
     have EA := Lib.hid eA
     have HXP := Lib.hid hx'
     have HQL := Lib.hid hql
     have HP := Lib.hid hp
     have j1 : (0 : Int) ≤ (q : Int) := by omega
     have j2 : (q : Int) < (n0 : Int) := by omega
     have j3 : (q : Int) ≤ 9223372036854775806 := by have := RR.out.fi.ns.cap; have := HN0.out; omega
     have HT := Lib.hid (show kidT (dens k.l) x.lv (x.kid j) = norm (dens k.l) x' by rw [← HY.out, kid_den _ (by rw [HX.out]; omega), HXP.out, den_loose HLL.out (by rw [← HN0.out]; exact hq)])
     have HLN := Lib.hid (show (L ++ M).length + countT (norm (dens k.l) x') ≤ 900000 by
      have h1 := congrArg List.length RR.out.mm
      rw [List.length_map, listK_len] at h1
      have h2 := cntK_mono k.l x (4 - (j + 1)) (j + 1)
      rw [show j + 1 + (4 - (j + 1)) = 4 by omega, cntK_four] at h2
      have h3 : cntK k.l x (j + 1) = cntK k.l x j + countT (norm (dens k.l) x') := by rw [← HT.out]; rfl
      have h4 := HLEN.out
      rw [List.length_append]
      omega)
     rw [eA] at a0
     clear hx' hql hp eA
     go_wp2_with fail
     go_still_tail 9, (by kernel_rfl)
     change wpList _ _ _ _ _ wr.drew
     have F1 := Lib.hid (RR.out.fi.next (below_drewN (Below.refl _ wr) 1))
     have K1 := Lib.hid ((Ky.refl (FiP k vf') wr).below (below_drewN (Below.refl _ wr) 1))
     have NOB := Lib.hid (RR.out.off H0.out)
     clear a0 a1 a2 a3 a4 a5 a6 b0
     go_wp2_with (go_at_call 70; go_loud (refine (putX_fi m jx n1 _ F1.out HN1.out (by rw [HN1.out]; exact HI.out) hx2 (by rw [HN1.out]; exact hn9)).mono ?_; rintro e w5 ⟨rfl, xs5, f5, v5, ky5⟩; have F5 := Lib.hid f5; have V5 := Lib.hid v5; have K5 := Lib.hid (K1.out.trans ky5 (fun q _ h => h)); obtain ⟨⟨a0, a1, a2, a3, a4, a5⟩, a6⟩ := f5.cells; rw [← HN0.out, EA.out] at a0; rw [← HH0.out] at a2; rw [← HN1.out] at a3 a4; obtain ⟨b0, -, -, -, -⟩ := (RR.out.nb.stay (K5.out.block w.heap.size RR.out.nb.lt NOB.out)).at_; rw [HX.out] at b0; clear f5 v5 ky5))
     go_still_tail 9, (by kernel_rfl)
     change wpList _ _ _ _ _ w5.drew
     have F5' := Lib.hid (F5.out.next (below_drewN (Below.refl _ w5) 1))
     have K5' := Lib.hid (K5.out.below (below_drewN (Below.refl _ w5) 1))
     clear a0 a1 a2 a3 a4 a5 a6 b0
     go_wp2_with (first
      | (go_at_call 70; go_loud (refine (putY_fi m jy n1 _ F5'.out HN1.out (by rw [HN1.out]; exact HI.out) hy2 (by rw [HN1.out]; exact hn9)).mono ?_; rintro e w6 ⟨rfl, ys5, f6, v6, ky6⟩; have F6 := Lib.hid f6; have V6 := Lib.hid v6; obtain ⟨c1_, c2_, c3_, c4_, c5_⟩ := f6.node EA.out (q := q) (by rw [← HN0.out]; exact hq); rw [← HXP.out] at c1_ c2_ c3_ c4_ c5_; have K6 := Lib.hid (K5'.out.trans ky6 (fun q _ h => h)); obtain ⟨⟨a0, a1, a2, a3, a4, a5⟩, a6⟩ := f6.cells; rw [← HN0.out, EA.out] at a0; rw [← HH0.out] at a2; rw [← HN1.out] at a3 a4; obtain ⟨b0, -, -, -, -⟩ := (RR.out.nb.stay (K6.out.block w.heap.size RR.out.nb.lt NOB.out)).at_; rw [HX.out] at b0; clear f6 v6 ky6))
      | (go_at_call 42; go_loud (refine (IH.out p (by have := HP.out; omega) x' vf' (L ++ M) xs5 ys5 w6 (by have := HP.out; omega) (by rw [HQL.out]; have := HP.out; omega) (by rw [HXP.out]; exact loose_fit HLL.out (by rw [← HN0.out]; exact hq)) (by have := HP.out; have := HI.out; omega) HLN.out (Nat.le_trans hbase (Nat.le_trans RR.out.ky.size K6.out.size)) F6.out).mono ?_; rintro e w7 ⟨v7, M2, xs7, ys7, rfl, f7, mm7, x7, y7, vb7, ky7⟩; have F7 := Lib.hid f7; have MM7 := Lib.hid mm7; have X7 := Lib.hid x7; have Y7 := Lib.hid y7; have VB7 := Lib.hid vb7; have K7 := Lib.hid ky7; clear f7 mm7 x7 y7 vb7 ky7)))
     go_roundw
     case rel => exact ⟨j + 1, v7, M ++ M2, xs7, ys7, by omega, by go_num, RR.out.step H0.out hlt HP.out HT.out K6.out (by rw [V5.out, HJX.out]) (by rw [V6.out, HJY.out]) F7.out MM7.out X7.out Y7.out VB7.out K7.out⟩
     case measure => simp [intOf]; omega
   ·
    obtain rfl : j = 4 := by omega
    have RR := Lib.hid R
    clear R hj hlt
    go_wp2_with fail
    go_end0
    exact ⟨vf', M, xs', ys', rfl, RR.out.fi, by rw [RR.out.mm, listK_four _ _ _ _ _ HX.out], RR.out.xx, RR.out.yy, fun q hq => (RR.out.vb q hq).imp id Nat.le_of_lt, RR.out.ky⟩
end Go.Proofs.YtmfncapgikobkaaGreat

namespace Go.Proofs.YtmfncapgikobkaaGreat
set_option maxRecDepth 100000
set_option linter.unusedVariables false
set_option linter.unusedSimpArgs false
open Go.RowKit Nds Num
theorem pow_p2 (n : Nat) (h : n ≤ 1330) : shlI 1 (n : Int) = p2 n := by
 unfold shlI p2
 rw [if_pos (by omega), Int.toNat_natCast, Int.one_mul]
structure WI (w : World) (v : Cv) (g h : Nat) (s : Bool) (A : Option Addr) (c : Nat) (xs : List Nat) (t : Bool) (B : Option Addr) (d : Nat) (ys : List Nat) (n : Int) (W : World) : Prop where
 b : Below w.heap.size w W
 lt : w.heap.size < W.heap.size
 bv : CvAt W w.heap.size 0 v
 uv : CvU W v
 p : HX W g s A c xs n
 l : HX W h t B d ys (-n)
theorem WI.next {w : World} {v : Cv} {g h : Nat} {s : Bool} {A : Option Addr} {c : Nat} {xs : List Nat} {t : Bool} {B : Option Addr} {d : Nat} {ys : List Nat} {n : Int} {W W1 : World} (k : WI w v g h s A c xs t B d ys n W) (q : Below W.heap.size W W1) : WI w v g h s A c xs t B d ys n W1 :=
 ⟨k.b.trans (q.mono k.b.size), Nat.lt_of_lt_of_le k.lt q.size, k.bv.below (q.block _ k.lt), k.uv.below q, k.p.next q, k.l.next q⟩
end Go.Proofs.YtmfncapgikobkaaGreat
