/-
  canon: ordered's visit.
-/
import Derived.Test.YtbcolelgbbmjkaaNcAd

namespace Go.Proofs.Ytbcolelgbbmjkaa
set_option linter.unusedVariables false
set_option linter.unusedSimpArgs false
open Go.RowKit Nds
/-- The closures. -/
def addF (bK bS : Nat) : Value := .func (.func 27) #[] #[.pointer (some ⟨bK, 0, none⟩), .pointer (some ⟨bS, 0, none⟩)]
def visF (bN bL bV bA : Nat) : Value := .func (.func 28) #[] #[.pointer (some ⟨bN, 0, none⟩), .pointer (some ⟨bL, 0, none⟩), .pointer (some ⟨bV, 0, none⟩), .pointer (some ⟨bA, 0, none⟩)]
/-- What stands while ordered walks. -/
structure Env (w : World) (A : Option Addr) (c n bL bS bk bK bA bm bN bV : Nat) : Prop where
  l : w.heap[bL]? = some (.cells #[.slice A n c] 22)
  k : w.heap[bK]? = some (.cells #[.map (some bk)] 53)
  a : w.heap[bA]? = some (.cells #[addF bK bS] 54)
  n : w.heap[bN]? = some (.cells #[.map (some bm)] 55)
  v : w.heap[bV]? = some (.cells #[visF bN bL bV bA] 56)
/-- The blocks in their order. -/
def Chn (A : Option Addr) (bL bS bk bK bA bm bN bV base : Nat) : Prop := (∀ a, A = some a → a.block < bL) ∧ bL < bS ∧ bS < bk ∧ bk < bK ∧ bK < bA ∧ bA < bm ∧ bm < bN ∧ bN < bV ∧ bV < base
/-- What turns. -/
structure Sta (l : List Nd) (w : World) (bS bk bm base : Nat) (v : Value) (out : List Nd) : Prop where
  s : w.heap[bS]? = some (.cells #[v] 22)
  o : OwnN w base v out
  k : KM w bk out
  m : MM l w bm out
theorem ps_not {bS bk bm base b : Nat} {v : Value} {w : World} {out : List Nd} (ho : OwnN w base v out) (h1 : b ≠ bS) (h2 : b ≠ bk) (h3 : b ≠ bm) (h4 : b < base) : ¬ PS bS bk bm v b := by
  rintro (h | h | h | h)
  · exact h1 h
  · exact h2 h
  · exact h3 h
  · exact absurd (ho.lt b h).1 (Nat.not_le.2 h4)
theorem Env.ky {w w' : World} {A : Option Addr} {c n bL bS bk bK bA bm bN bV base : Nat} {v : Value} {out : List Nd} (h : Env w A c n bL bS bk bK bA bm bN bV) (ho : OwnN w base v out) (hc : Chn A bL bS bk bK bA bm bN bV base) (k : Ky (PS bS bk bm v) w w') : Env w' A c n bL bS bk bK bA bm bN bV := by
  obtain ⟨_, h1, h2, h3, h4, h5, h6, h7, h8⟩ := hc
  have key : ∀ b {o : Obj}, w.heap[b]? = some o → b ≠ bS → b ≠ bk → b ≠ bm → b < base → w'.heap[b]? = some o := fun b o hb a1 a2 a3 a4 => (k.block b (box_lt hb) (ps_not ho a1 a2 a3 a4)).trans hb
  exact ⟨key bL h.l (by omega) (by omega) (by omega) (by omega), key bK h.k (by omega) (by omega) (by omega) (by omega), key bA h.a (by omega) (by omega) (by omega) (by omega), key bN h.n (by omega) (by omega) (by omega) (by omega), key bV h.v (by omega) (by omega) (by omega) (by omega)⟩
theorem ns_ky {w w' : World} {A : Option Addr} {c bL bS bk bK bA bm bN bV base : Nat} {v : Value} {out l : List Nd} (h : Ns w A c l) (ho : OwnN w base v out) (hc : Chn A bL bS bk bK bA bm bN bV base) (k : Ky (PS bS bk bm v) w w') : Ns w' A c l := by
  obtain ⟨h0, h1, h2, h3, h4, h5, h6, h7, h8⟩ := hc
  exact k.ns h fun a ea => ps_not ho (by have := h0 a ea; omega) (by have := h0 a ea; omega) (by have := h0 a ea; omega) (by have := h0 a ea; omega)
/-- What visit leaves. -/
def RetW (l : List Nd) (j : Nat) (out : List Nd) (bS bk bm base : Nat) (v : Value) (w : World) (e : Ending) (w' : World) : Prop :=
  ∃ v', e = .returned (.int .i64 (enc (den l j) out).2) ∧ Sta l w' bS bk bm base v' (enc (den l j) out).1 ∧ (∀ k, v'.ownBlock = some k → v.ownBlock = some k ∨ w.heap.size ≤ k) ∧ Ky (PS bS bk bm v) w w'
theorem oper_store_mm {w : World} {o : Oper} {a : Act} {K : Act → World → Prop} {Q : Exit → Act → World → Prop} {l : List Nd} {out : List Nd} {b n : Nat} {k : Int} (m x v : Operand) (hop : o.op = Op.mapUpdate 55 m x v)
    (hm : a.eval m = .map (some b)) (hx : a.eval x = .int .i64 (n : Int)) (hv : a.eval v = .int .i64 k) (h : MM l w b out) (hg : GoodL out) (hl : l.length ≤ 1000000) (hn : n ≤ l.length) (hk : NumT out (den l n) k)
    (hK : ∀ w', MM l w' b out → w.grownBy w' (some b) → (Instr.lookup 55 (.map (some b)) (.int .i64 (n : Int)) false).run Try.prog w' = .ok (.int .i64 k) w' → K (a.put o.dst undef) w') : Oper.wp Try.prog o a w K Q := by
  obtain ⟨w', hrun, r1, r2, r3⟩ := h.putM hg hl n hn hk
  unfold Oper.wp
  simp [execOp, hop, hm, hx, hv, hrun, Result.andThen]
  exact hK w' r1 r2 r3
set_option maxRecDepth 100000 in
set_option maxHeartbeats 3200000 in
theorem visit_known (A : Option Addr) (c n bL bS bk bK bA bm bN bV base : Nat) (l : List Nd) (j : Nat) (k : Int) (out : List Nd) (v : Value) (w : World) (hg : GoodL out) (henv : Env w A c n bL bS bk bK bA bm bN bV) (hst : Sta l w bS bk bm base v out)
    (hlk : (Instr.lookup 55 (.map (some bm)) (.int .i64 (j : Int)) true).run Try.prog w = .ok (.tuple #[.int .i64 k, .bool true]) w) (hnum : NumT out (den l j) k) :
    Calls Try.prog 28 #[.int .i64 (j : Int), .pointer (some ⟨bN, 0, none⟩), .pointer (some ⟨bL, 0, none⟩), .pointer (some ⟨bV, 0, none⟩), .pointer (some ⟨bA, 0, none⟩)] w (RetW l j out bS bk bm base v w) := by
  have hM := enc_memo hg _ _ hnum
  obtain ⟨R, hR⟩ : ∃ R, R = RetW l j out bS bk bm base v w := ⟨_, rfl⟩
  rw [← hR]
  have HR := Lib.hid hR
  have HM := Lib.hid hM
  have HS := Lib.hid hst
  have k1 := box_cell henv.n
  clear hR hM hst henv hnum hg
  go_enter Try.func28, Try.ntmps28
  go_wp2_with fail
  try go_ret
  rw [HR.out]
  unfold RetW
  rw [HM.out]
  exact ⟨v, rfl, HS.out, fun k hk => .inl hk, Ky.refl _ _⟩
theorem addR_pre (out : List Nd) (x : Nd) : out <+: (addR out x).1 := by
  unfold addR add
  split
  · exact List.prefix_refl _
  · split
    · exact List.prefix_append _ _
    · exact List.prefix_refl _
theorem vis_good {l out o4 : List Nd} {y : Nd} {p : Nat} (h : InvT l (enc (den l (p + 1)) out).1) (hr : enc (den l (p + 1)) out = ((addR o4 y).1, ((addR o4 y).2 : Int))) : fnd o4 y = 0 → y.each (· == 0) = false → GoodL (o4 ++ [y]) := by
  intro hf hz
  have h1 := h.1
  rw [hr] at h1
  unfold addR at h1
  rw [hz, if_neg (by simp), add_none hf] at h1
  exact h1
theorem vis_s {W : World} {A : Option Addr} {c n bL bS bk bK bA bm bN bV gx : Nat} {y : Nd} (h : Env W A c n bL bS bk bK bA bm bN bV) (hx : NdBox W gx y) : W.cell? ⟨bN, 0, none⟩ = some (.map (some bm)) ∧ W.cell? ⟨bA, 0, none⟩ = some (.func (.func 27) #[] #[.pointer (some ⟨bK, 0, none⟩), .pointer (some ⟨bS, 0, none⟩)]) ∧ W.cell? ⟨gx, 0, none⟩ = some (.int .i64 y.lv) ∧ W.cell? ⟨gx, 1, none⟩ = some (.int .i64 y.a) ∧ W.cell? ⟨gx, 2, none⟩ = some (.int .i64 y.b) ∧ W.cell? ⟨gx, 3, none⟩ = some (.int .i64 y.c) ∧ W.cell? ⟨gx, 4, none⟩ = some (.int .i64 y.d) := by
  obtain ⟨h1, h2, h3, h4, h5⟩ := hx.at_
  exact ⟨box_cell h.n, box_cell h.a, h1, h2, h3, h4, h5⟩
theorem sta_below {l : List Nd} {w w' : World} {bS bk bm base : Nat} {v : Value} {out : List Nd} (h : Sta l w bS bk bm base v out) (b : Below w.heap.size w w') : Sta l w' bS bk bm base v out :=
  ⟨(b.block bS (box_lt h.s)).trans h.s, h.o.stays b, h.k.stay (b.block bk h.k.lt), h.m.stay (b.block bm h.m.lt)⟩
theorem sta_set {l : List Nd} {w : World} {A : Option Addr} {bL bS bk bK bA bm bN bV base g : Nat} {v : Value} {out : List Nd} (h : Sta l w bS bk bm base v out) (hc : Chn A bL bS bk bK bA bm bN bV base) (hg0 : True ∨ g = g) (hg : base ≤ g) (hv : v.ownBlock ≠ some g) (o : Nat) (u : Value) : Sta l (w.setCell ⟨g, o, none⟩ u) bS bk bm base v out := by
  have hc2 := hc.2
  exact ⟨(Below.heap_setCell _ _ _ _ (show bS ≠ g by omega)).trans h.s, h.o.gbr (gb_setCell _ _ _) (.inr hv), h.k.stay (Below.heap_setCell _ _ _ _ (show bk ≠ g by omega)), h.m.stay (Below.heap_setCell _ _ _ _ (show bm ≠ g by omega))⟩
theorem env_set {w : World} {A : Option Addr} {c n bL bS bk bK bA bm bN bV base g : Nat} (h : Env w A c n bL bS bk bK bA bm bN bV) (hc : Chn A bL bS bk bK bA bm bN bV base) (hg : base ≤ g) (o : Nat) (u : Value) : Env (w.setCell ⟨g, o, none⟩ u) A c n bL bS bk bK bA bm bN bV := by
  have hc2 := hc.2
  exact ⟨(Below.heap_setCell _ _ _ _ (show bL ≠ g by omega)).trans h.l, (Below.heap_setCell _ _ _ _ (show bK ≠ g by omega)).trans h.k, (Below.heap_setCell _ _ _ _ (show bA ≠ g by omega)).trans h.a, (Below.heap_setCell _ _ _ _ (show bN ≠ g by omega)).trans h.n, (Below.heap_setCell _ _ _ _ (show bV ≠ g by omega)).trans h.v⟩
theorem vis_end {l : List Nd} {W1 W2 : World} {A : Option Addr} {c n bL bS bk bK bA bm bN bV base : Nat} {v2 : Value} {o5 : List Nd} (hc : Chn A bL bS bk bK bA bm bN bV base) (h : Env W1 A c n bL bS bk bK bA bm bN bV) (h1 : W1.heap[bS]? = some (.cells #[v2] 22)) (h2 : OwnN W1 base v2 o5) (h3 : KM W1 bk o5) (m2 : MM l W2 bm o5) (g2 : W1.grownBy W2 (some bm)) :
    Env W2 A c n bL bS bk bK bA bm bN bV ∧ Sta l W2 bS bk bm base v2 o5 := by
  have hc2 := hc.2
  have key : ∀ b, b ≠ bm → b < W1.heap.size → W2.heap[b]? = W1.heap[b]? := fun b hb hl => g2.block b hl (fun e => hb (Option.some.inj e))
  refine ⟨⟨(key bL (by omega) (box_lt h.l)).trans h.l, (key bK (by omega) (box_lt h.k)).trans h.k, (key bA (by omega) (box_lt h.a)).trans h.a, (key bN (by omega) (box_lt h.n)).trans h.n, (key bV (by omega) (box_lt h.v)).trans h.v⟩, ⟨(key bS (by omega) (box_lt h1)).trans h1, h2.gbr g2 (own_dec fun k hk e => ?_), h3.stay (key bk (by omega) h3.lt), m2⟩⟩
  have h4 := (h2.lt k hk).1
  have h5 : bm = k := Option.some.inj e
  omega
set_option maxRecDepth 100000 in
set_option maxHeartbeats 6400000 in
theorem visit_rec (A : Option Addr) (c n bL bS bk bK bA bm bN bV base : Nat) (l : List Nd) (hl : looseB l = true) (hn : l.length = n) (hn9 : n ≤ 990000) (hch : Chn A bL bS bk bK bA bm bN bV base) :
    ∀ (m j : Nat) (out : List Nd) (v : Value) (w : World), j ≤ n → (0 < j → (at_ l (j - 1)).lv ≤ m) → InvT l out → Env w A c n bL bS bk bK bA bm bN bV → Ns w A c l → Sta l w bS bk bm base v out → base ≤ w.heap.size →
    Calls Try.prog 28 #[.int .i64 (j : Int), .pointer (some ⟨bN, 0, none⟩), .pointer (some ⟨bL, 0, none⟩), .pointer (some ⟨bV, 0, none⟩), .pointer (some ⟨bA, 0, none⟩)] w (RetW l j out bS bk bm base v w) := by
  have HLL := Lib.hid hl
  have HL := Lib.hid hn
  have HCH := Lib.hid hch
  clear hl hn hch
  intro m
  induction m with
  | zero =>
    intro j out v w hj hm hinv henv hN hst hbase
    have hj0 : j = 0 := by
      rcases Nat.eq_zero_or_pos j with h | h
      · exact h
      · have := hm h
        have := fit_lv (loose_fit HLL.out (i := j - 1) (by rw [HL.out]; omega))
        omega
    rcases hst.m.lookM (by rw [HL.out]; omega) j (by rw [HL.out]; exact hj) with ⟨k, h1, h2⟩ | ⟨_, h2⟩
    · exact visit_known A c n bL bS bk bK bA bm bN bV base l j k out v w hinv.1 henv hst h1 h2
    · exact absurd hj0 h2
  | succ m ih =>
    intro j out v w hj hm hinv henv hN hst hbase
    rcases hst.m.lookM (by rw [HL.out]; omega) j (by rw [HL.out]; exact hj) with ⟨k, h1, h2⟩ | ⟨hlk, hj0⟩
    · exact visit_known A c n bL bS bk bK bA bm bN bV base l j k out v w hinv.1 henv hst h1 h2
    · obtain ⟨p, rfl⟩ : ∃ p, j = p + 1 := ⟨j - 1, by omega⟩
      have hcap := hN.cap
      rw [HL.out] at hcap
      have hpl : p < l.length := by rw [HL.out]; omega
      obtain ⟨b, off, rfl, hb, hc⟩ := hN.at_ (by omega)
      obtain ⟨c1, c2, c3, c4, c5⟩ := hc p hpl
      have hfx := Lib.hid (loose_fit HLL.out hpl)
      have hkf := Lib.hid (loose_iff.1 HLL.out p hpl)
      have hv2 := enc_visit HLL.out hpl out
      have hspec := enc_spec _ _ out (wf_den HLL.out p hpl) hinv.1
      have hienc := inv_enc HLL.out (p + 1) out (by omega) hinv
      have hwy := top_wf HLL.out hpl hinv (by rw [HL.out]; omega)
      have hte := top_each HLL.out hpl hinv
      have hiv := inv_outK HLL.out hpl hinv
      have hpre := outK_pre HLL.out hpl hinv
      have htone := fun h => top_one (l := l) (x := at_ l p) h out
      have hkone := fun h => kT_one (l := l) (x := at_ l p) h out
      have hlvm : (at_ l p).lv ≤ (m : Int) + 1 := by
        have := hm (by omega)
        rw [show p + 1 - 1 = p by omega] at this
        exact_mod_cast this
      obtain ⟨x, hx⟩ : ∃ x, x = at_ l p := ⟨_, rfl⟩
      rw [← hx] at c1 c2 c3 c4 c5 hfx hkf hv2 hwy hiv hpre htone hkone hlvm hte
      obtain ⟨y, hy⟩ : ∃ y, y = topN (kT l x) out x.lv := ⟨_, rfl⟩
      rw [← hy] at hv2 hwy htone hte
      have hret : enc (den l (p + 1)) out = ((addR (outK (kT l x) out 4) y).1, ((addR (outK (kT l x) out 4) y).2 : Int)) := by
        rw [hv2]
        unfold addR
        rw [hte]
        split
        · rename_i h
          have hall := (norm_isE_iff (dens l) x).1 (by rw [hx, ← den_loose HLL.out hpl]; exact isE_iff.1 h)
          rw [outK_e (f := kT l x) 4 (fun i hi => hall i hi)]
          rfl
        · rfl
      have HY := Lib.hid hy
      have HX := Lib.hid hx
      have HRT := Lib.hid hret
      have HSP := Lib.hid hspec
      have HIE := Lib.hid hienc
      have HWY := Lib.hid hwy
      have HTE := Lib.hid hte
      have HIV := Lib.hid hiv
      have HPRE := Lib.hid hpre
      have HT1 := Lib.hid htone
      have HK1 := Lib.hid hkone
      have HNW := Lib.hid hN
      have HST := Lib.hid hst
      have HEN := Lib.hid henv
      have i1 : (p : Int) + 1 < (n : Int) + 1 := by omega
      have i3 : (p : Int) < (n : Int) := by omega
      have hxv := fit_lv hfx.out
      obtain ⟨R, hR⟩ : ∃ R, R = RetW l (p + 1) out bS bk bm base v w := ⟨_, rfl⟩
      rw [← hR]
      have HR := Lib.hid hR
      have HNB := Lib.hid (NdBox.new w x)
      have k1 := box_cell henv.n
      have k2 := box_cell henv.l
      rw [show ((p + 1 : Nat) : Int) = (p : Int) + 1 by omega] at hlk ⊢
      clear hN hst henv hinv hR hc hj0 hv2 hspec hienc hwy hte hiv hpre htone hkone hy hx hb hm hret
      go_enter Try.func28, Try.ntmps28
      -- the walk
      have hWK : Ky (PS bS bk bm v) w (w.alloc (.cells #[.int .i64 x.lv, .int .i64 x.a, .int .i64 x.b, .int .i64 x.c, .int .i64 x.d] 38)) := (Ky.refl _ _).alloc _
      have hWB : Below w.heap.size w (w.alloc (.cells #[.int .i64 x.lv, .int .i64 x.a, .int .i64 x.b, .int .i64 x.c, .int .i64 x.d] 38)) := (Below.refl _ _).alloc (Nat.le_refl _) _
      have hWS := sta_below HST.out hWB
      have hWE := HEN.out.ky HST.out.o HCH.out hWK
      have hvx : v.ownBlock ≠ some w.heap.size := fun e => absurd (HST.out.o.lt _ e).2 (Nat.lt_irrefl _)
      have HWK := Lib.hid hWK
      have HWS := Lib.hid hWS
      have HWE := Lib.hid hWE
      have HVX := Lib.hid hvx
      have HPX := Lib.hid (show ∀ u : Value, u.ownBlock ≠ some w.heap.size → ¬ PS bS bk bm u w.heap.size from fun u hu => by
        have hc := HCH.out.2
        rintro (h | h | h | h)
        · omega
        · omega
        · omega
        · exact hu h)
      clear hWK hWB hWS hWE hvx
      by_cases hlv : 1 < x.lv
      · have t1 : decide (1 < x.lv) = true := decide_eq_true hlv
        have hne : x.lv ≠ 1 := by omega
        go_wp2_with fail
        obtain ⟨gx, hgx⟩ : ∃ gx, gx = w.heap.size := ⟨_, rfl⟩
        have HGX := Lib.hid hgx
        rw [← hgx] at HNB HVX HPX ⊢
        have HNB0 := Lib.hid (show NdBox (w.alloc (.cells #[.int .i64 x.lv, .int .i64 x.a, .int .i64 x.b, .int .i64 x.c, .int .i64 x.d] 38)) gx (mix x y 0) from HNB.out)
        generalize hWW : World.alloc _ _ = W at *
        clear hWW hgx c1 c2 c3 c4 c5 k1 k2 hlk
        go_loopw [30, 10, 11] (fun z1 z2 z3 wr => ∃ (q : Nat) (u2 u3 v1 : Value), q ≤ 4 ∧ z1 = .int .i64 q ∧ z2 = u2 ∧ z3 = u3 ∧ Sta l wr bS bk bm base v1 (outK (kT l x) out q) ∧ Env wr (some ⟨b, off, none⟩) c n bL bS bk bK bA bm bN bV ∧ v1.ownBlock ≠ some gx ∧
          (∀ k, v1.ownBlock = some k → v.ownBlock = some k ∨ w.heap.size ≤ k) ∧ NdBox wr gx (mix x y q) ∧ Ky (PS bS bk bm v) w wr) (fun z1 _ _ _ => 4 - (intOf z1).toNat)
        case atStart => exact ⟨0, _, _, v, by omega, rfl, rfl, rfl, HWS.out, HWE.out, HVX.out, fun k hk => .inl hk, HNB0.out, HWK.out⟩
        case round =>
          obtain ⟨q, u2, u3, v1, hq, rfl, rfl, rfl, h1, h2, h3, h4, h5, h6⟩ := hrel
          have H1 := Lib.hid h1
          have H2 := Lib.hid h2
          have H3 := Lib.hid h3
          have H4 := Lib.hid h4
          have H5 := Lib.hid h5
          have H6 := Lib.hid h6
          clear h1 h2 h3 h4 h5 h6
          by_cases hq4 : q < 4
          · obtain ⟨r, hr, hkT, hkr⟩ := kT_up hfx.out hne hq4
            have hidx := index4 x q hq4
            rw [hkr] at hidx
            have hrp : r ≤ p := by
              rcases kid_up hne (fit_kid hkf.out hq4) with e | ⟨t, e, ht, _⟩
              · omega
              · have := List.length_take_le p l
                omega
            have hrlv : 0 < r → (at_ l (r - 1)).lv ≤ (m : Int) := by
              intro h0
              rcases kid_up hne (fit_kid hkf.out hq4) with e | ⟨t, e, ht, htl⟩
              · omega
              · have hle := List.length_take_le p l
                rw [at_take (by omega)] at htl
                rw [show r - 1 = t by omega]
                omega
            have hstep : outK (kT l x) out (q + 1) = (enc (den l r) (outK (kT l x) out q)).1 := by
              show (enc (kT l x q) _).1 = _
              rw [hkT]
            have hnum : y.kid q = (enc (den l r) (outK (kT l x) out q)).2 := by
              rw [HY.out, topN_kid _ _ _ hq4]
              show (enc (kT l x q) _).2 = _
              rw [hkT]
            have HST2 := Lib.hid hstep
            have HNU := Lib.hid hnum
            have hNr := Lib.hid (ns_ky HNW.out HST.out.o HCH.out H6.out)
            have hbs := Nat.le_trans hbase H6.out.size
            have hrn : r ≤ n := by rw [← HL.out]; exact hr
            have HIQ := Lib.hid (HIV.out q hq)
            have HRL := Lib.hid hrlv
            have i4 : (q : Int) < 4 := by omega
            have kv : wr.cell? ⟨bV, 0, none⟩ = some (.func (.func 28) #[] #[.pointer (some ⟨bN, 0, none⟩), .pointer (some ⟨bL, 0, none⟩), .pointer (some ⟨bV, 0, none⟩), .pointer (some ⟨bA, 0, none⟩)]) := box_cell H2.out.v
            clear hstep hnum hkT hkr hr hrlv
            go_wp2_with (go_at_call 28; go_loud (refine (ih r _ v1 _ hrn HRL.out HIQ.out H2.out hNr.out H1.out hbs).mono ?_; rintro e w1 ⟨v2, rfl, r1, r2, r3⟩; have R1 := Lib.hid r1; have R2 := Lib.hid r2; have R3 := Lib.hid r3; have hbx1 := Lib.hid (H5.out.stay (r3.block gx H5.out.lt (HPX.out v1 H3.out))); have hen1 := Lib.hid (H2.out.ky H1.out.o HCH.out r3); clear r1 r2 r3; have fz := hbx1.out.free (1 + q); have cz := hbx1.out.at_.kid hq4; rw [show 0 + 1 + q = 1 + q by omega] at cz))
            go_roundw
            case rel =>
              have hvx2 : v2.ownBlock ≠ some gx := fun e => by
                rcases R2.out gx e with e2 | e2
                · exact H3.out e2
                · exact absurd H5.out.lt (Nat.not_lt.2 e2)
              refine ⟨q + 1, _, _, v2, by omega, by go_num, rfl, rfl, ?_, ?_, hvx2, ?_, ?_, ?_⟩
              · rw [HST2.out]
                exact sta_set R1.out HCH.out (g := gx) (by rw [HGX.out]; omega) (by rw [HGX.out]; exact hbase) hvx2 _ _
              · exact env_set hen1.out HCH.out (g := gx) (by rw [HGX.out]; exact hbase) _ _
              · intro k hk
                rcases R2.out k hk with e2 | e2
                · exact H4.out k e2
                · exact .inr (Nat.le_trans H6.out.size e2)
              · exact hbx1.out.setKid hq4 (by omega) HNU.out.symm
              · refine (H6.out.trans R3.out (fun i hi hp => ?_)).set _ (fun h => ?_) _
                · rcases hp with h1 | h1 | h1 | h1
                  · exact .inl h1
                  · exact .inr (.inl h1)
                  · exact .inr (.inr (.inl h1))
                  · rcases H4.out i h1 with e2 | e2
                    · exact .inr (.inr (.inr e2))
                    · omega
                · exact absurd (show gx < w.heap.size from h) (by rw [HGX.out]; exact Nat.lt_irrefl _)
            case measure => simp [intOf]; omega
          · have hq5 : q = 4 := by omega
            subst hq5
            obtain ⟨o4, ho4⟩ : ∃ o4, o4 = outK (kT l x) out 4 := ⟨_, rfl⟩
            have hFI := HIV.out 4 (Nat.le_refl _)
            rw [← ho4] at H1 HRT hFI
            have FS := H1
            have FE := H2
            have FX := Lib.hid (show NdBox wr gx y by have h := H5.out; rw [mix_four (by rw [HY.out]; rfl)] at h; exact h)
            have FK := H6
            have FO := H4
            have FI := Lib.hid hFI
            have FP := Lib.hid (HPX.out v1 H3.out)
            clear ho4 hFI H1 H2 H4 H5 H6 hq4
            go_wp2_with fail
            refine wp_region_noPanic ?_
            refine wp_region_held (S := fun w' => w'.cell? ⟨bN, 0, none⟩ = some (.map (some bm)) ∧ w'.cell? ⟨bA, 0, none⟩ = some (.func (.func 27) #[] #[.pointer (some ⟨bK, 0, none⟩), .pointer (some ⟨bS, 0, none⟩)]) ∧ w'.cell? ⟨gx, 0, none⟩ = some (.int .i64 y.lv) ∧ w'.cell? ⟨gx, 1, none⟩ = some (.int .i64 y.a) ∧ w'.cell? ⟨gx, 2, none⟩ = some (.int .i64 y.b) ∧ w'.cell? ⟨gx, 3, none⟩ = some (.int .i64 y.c) ∧ w'.cell? ⟨gx, 4, none⟩ = some (.int .i64 y.d)) (by kernel_rfl) ?_
            obtain ⟨W0, hW0⟩ : ∃ W0 : World, W0 = wr.drew := ⟨_, rfl⟩
            have E0 := Lib.hid (show Env W0 (some ⟨b, off, none⟩) c n bL bS bk bK bA bm bN bV by rw [hW0]; exact ⟨FE.out.l, FE.out.k, FE.out.a, FE.out.n, FE.out.v⟩)
            have S0 := Lib.hid (show Sta l W0 bS bk bm base v1 o4 by rw [hW0]; exact ⟨FS.out.s, FS.out.o, FS.out.k, FS.out.m⟩)
            have X0 := Lib.hid (show NdBox W0 gx y by rw [hW0]; exact FX.out)
            have K0 := Lib.hid (show Ky (PS bS bk bm v) w W0 by rw [hW0]; exact ⟨FK.out.os, FK.out.tape, FK.out.output, FK.out.size, FK.out.block⟩)
            have hS0 := vis_s E0.out X0.out
            change wpAnyH _ _ _ _ _ _ _ _ wr.drew
            rw [← hW0]
            clear hW0
            refine wpAnyH_take (i := 0) (v := ?_) rfl (by kernel_rfl) (by kernel_rfl) (by kernel_rfl) (fun _ _ _ h => h) (Or.inl ⟨by rfl, ?_⟩) hS0 ?_
            rotate_left
            · rintro w' ⟨s1, s2, s3, s4, s5, s6, s7⟩
              go_simp
              first | done | with_reducible rfl | rfl
            simp only [Act.put, List.getElem_toArray, List.getElem_cons_succ, List.getElem_cons_zero, List.setIfInBounds_toArray, List.set_cons_zero, List.set_cons_succ]
            refine wpAnyH_take (i := 1) (v := ?_) rfl (by kernel_rfl) (by kernel_rfl) (by kernel_rfl) (fun _ _ _ h => h) (Or.inl ⟨by rfl, ?_⟩) hS0 ?_
            rotate_left
            · rintro w' ⟨s1, s2, s3, s4, s5, s6, s7⟩
              go_simp
              first | done | with_reducible rfl | rfl
            simp only [Act.put, List.getElem_toArray, List.getElem_cons_succ, List.getElem_cons_zero, List.setIfInBounds_toArray, List.set_cons_zero, List.set_cons_succ]
            refine wpAnyH_take (i := 2) (v := ?_) rfl (by kernel_rfl) (by kernel_rfl) (by kernel_rfl) (fun _ _ _ h => h) (Or.inl ⟨by rfl, ?_⟩) hS0 ?_
            rotate_left
            · rintro w' ⟨s1, s2, s3, s4, s5, s6, s7⟩
              go_simp
              first | done | with_reducible rfl | rfl
            simp only [Act.put, List.getElem_toArray, List.getElem_cons_succ, List.getElem_cons_zero, List.setIfInBounds_toArray, List.set_cons_zero, List.set_cons_succ]
            refine wpAnyH_take (i := 3) (v := ?_) rfl (by kernel_rfl) (by kernel_rfl) (by kernel_rfl) (fun _ _ _ h => h) (Or.inl ⟨by rfl, ?_⟩) hS0 ?_
            rotate_left
            · rintro w' ⟨s1, s2, s3, s4, s5, s6, s7⟩
              go_simp
              first | done | with_reducible rfl | rfl
            simp only [Act.put, List.getElem_toArray, List.getElem_cons_succ, List.getElem_cons_zero, List.setIfInBounds_toArray, List.set_cons_zero, List.set_cons_succ]
            refine wpAnyH_ready (rs := [4]) (by kernel_rfl) (by simp) (AllReadyH.cons rfl (fun K hK => ?_) AllReadyH.nil)
            go_simp
            refine (add_any bK bS bk bm base v1 o4 y W0 E0.out.k S0.out.s S0.out.o S0.out.k FI.out.1 HWY.out (by have := FI.out.len; rw [HL.out] at this; omega) (vis_good HIE.out HRT.out) (by have := HCH.out.2; omega) (by have := HCH.out.2; omega) (Nat.le_trans hbase K0.out.size)).mono ?_
            rintro e W1 ⟨v2, rfl, a1, a2, a3, a4, a5, a6⟩
            dsimp only
            have E1 := Lib.hid (E0.out.ky S0.out.o HCH.out a5)
            have X1 := Lib.hid (X0.out.stay (a5.block gx X0.out.lt FP.out))
            have M1 := Lib.hid ((S0.out.m.stay a6).pre (addR_pre o4 y))
            have A1 := Lib.hid a1
            have A2 := Lib.hid a2
            have A3 := Lib.hid a3
            have A4 := Lib.hid a4
            have A5 := Lib.hid a5
            refine hK.out _ _ (vis_s E1.out X1.out) (fun _ => ?_)
            clear hK K a1 a2 a3 a4 a5 a6
            refine wpAnyH_ready (rs := [5]) (by kernel_rfl) (by simp) (AllReadyH.cons rfl (fun K hK => ?_) AllReadyH.nil)
            refine oper_store_mm (l := l) (out := (addR o4 y).1) (n := p + 1) (.tmp 41) (.tmp 42) (.tmp 45) rfl rfl rfl rfl M1.out (by have h1 := HIE.out.1; rw [HRT.out] at h1; exact h1) (by rw [HL.out]; omega) (by rw [HL.out]; omega) (by have h1 := HSP.out.num; rw [HRT.out] at h1; exact h1) ?_
            intro W2 m2 g2 l2
            simp only [Act.put, List.getElem_toArray, List.getElem_cons_succ, List.getElem_cons_zero, List.setIfInBounds_toArray, List.set_cons_zero, List.set_cons_succ]
            rw [show ((p + 1 : Nat) : Int) = (p : Int) + 1 by omega] at l2
            have Z := Lib.hid (vis_end HCH.out E1.out A1.out A2.out A3.out m2 g2)
            have X2 := Lib.hid (X1.out.stay (g2.block gx X1.out.lt (fun e => FP.out (.inr (.inr (.inl (Option.some.inj e)))))))
            have G2 := Lib.hid g2
            refine hK.out _ _ (vis_s Z.out.1 X2.out) (fun _ => ?_)
            clear hK K m2 g2
            refine wpAnyH_done (by kernel_rfl) ?_ _
            refine NoPanic.normal ?_
            have k5 := box_cell Z.out.1.n
            go_wp2_with fail
            try go_ret
            rw [HR.out]
            unfold RetW
            rw [HRT.out]
            refine ⟨v2, rfl, Z.out.2, ?_, ?_⟩
            · intro k hk
              rcases A4.out k hk with h1 | h1
              · exact FO.out k h1
              · exact .inr (Nat.le_trans K0.out.size h1)
            · refine (K0.out.trans A5.out (fun i hi hp => ?_)).gb G2.out (fun i _ e => .inr (.inr (.inl (Option.some.inj e).symm)))
              rcases hp with h1 | h1 | h1 | h1
              · exact .inl h1
              · exact .inr (.inl h1)
              · exact .inr (.inr (.inl h1))
              · rcases FO.out i h1 with h2 | h2
                · exact .inr (.inr (.inr h2))
                · omega
      · have t1 : decide (1 < x.lv) = false := decide_eq_false hlv
        have HONE := Lib.hid (show x.lv = 1 by omega)
        go_wp2_with fail
        obtain ⟨gx, hgx⟩ : ∃ gx, gx = w.heap.size := ⟨_, rfl⟩
        rw [← hgx] at HNB HVX HPX ⊢
        obtain ⟨W, hW⟩ : ∃ W : World, W = w.alloc (.cells #[.int .i64 x.lv, .int .i64 x.a, .int .i64 x.b, .int .i64 x.c, .int .i64 x.d] 38) := ⟨_, rfl⟩
        have FE := Lib.hid (show Env W (some ⟨b, off, none⟩) c n bL bS bk bK bA bm bN bV by rw [hW]; exact HWE.out)
        have FX := Lib.hid (show NdBox W gx y by rw [hW, HT1.out HONE.out]; exact HNB.out)
        have FK := Lib.hid (show Ky (PS bS bk bm v) w W by rw [hW]; exact HWK.out)
        obtain ⟨o4, ho4⟩ : ∃ o4, o4 = outK (kT l x) out 4 := ⟨_, rfl⟩
        have hFI := HIV.out 4 (Nat.le_refl _)
        rw [← ho4] at HRT hFI
        have FI := Lib.hid hFI
        obtain ⟨v1, hv1⟩ : ∃ v1, v1 = v := ⟨_, rfl⟩
        have FS := Lib.hid (show Sta l W bS bk bm base v1 o4 by rw [hW, hv1, ho4, HK1.out HONE.out 4]; exact HWS.out)
        have FO := Lib.hid (show ∀ k, v1.ownBlock = some k → v.ownBlock = some k ∨ w.heap.size ≤ k from fun k hk => by rw [hv1] at hk; exact .inl hk)
        have FP := Lib.hid (HPX.out v1 (by rw [hv1]; exact HVX.out))
        rw [← hW]
        clear hW hgx ho4 hFI hv1 c1 c2 c3 c4 c5 k1 k2 hlk
        refine wp_region_noPanic ?_
        refine wp_region_held (S := fun w' => w'.cell? ⟨bN, 0, none⟩ = some (.map (some bm)) ∧ w'.cell? ⟨bA, 0, none⟩ = some (.func (.func 27) #[] #[.pointer (some ⟨bK, 0, none⟩), .pointer (some ⟨bS, 0, none⟩)]) ∧ w'.cell? ⟨gx, 0, none⟩ = some (.int .i64 y.lv) ∧ w'.cell? ⟨gx, 1, none⟩ = some (.int .i64 y.a) ∧ w'.cell? ⟨gx, 2, none⟩ = some (.int .i64 y.b) ∧ w'.cell? ⟨gx, 3, none⟩ = some (.int .i64 y.c) ∧ w'.cell? ⟨gx, 4, none⟩ = some (.int .i64 y.d)) (by kernel_rfl) ?_
        obtain ⟨W0, hW0⟩ : ∃ W0 : World, W0 = W.drew := ⟨_, rfl⟩
        have E0 := Lib.hid (show Env W0 (some ⟨b, off, none⟩) c n bL bS bk bK bA bm bN bV by rw [hW0]; exact ⟨FE.out.l, FE.out.k, FE.out.a, FE.out.n, FE.out.v⟩)
        have S0 := Lib.hid (show Sta l W0 bS bk bm base v1 o4 by rw [hW0]; exact ⟨FS.out.s, FS.out.o, FS.out.k, FS.out.m⟩)
        have X0 := Lib.hid (show NdBox W0 gx y by rw [hW0]; exact FX.out)
        have K0 := Lib.hid (show Ky (PS bS bk bm v) w W0 by rw [hW0]; exact ⟨FK.out.os, FK.out.tape, FK.out.output, FK.out.size, FK.out.block⟩)
        have hS0 := vis_s E0.out X0.out
        change wpAnyH _ _ _ _ _ _ _ _ W.drew
        rw [← hW0]
        clear hW0
        refine wpAnyH_take (i := 0) (v := ?_) rfl (by kernel_rfl) (by kernel_rfl) (by kernel_rfl) (fun _ _ _ h => h) (Or.inl ⟨by rfl, ?_⟩) hS0 ?_
        rotate_left
        · rintro w' ⟨s1, s2, s3, s4, s5, s6, s7⟩
          go_simp
          first | done | with_reducible rfl | rfl
        simp only [Act.put, List.getElem_toArray, List.getElem_cons_succ, List.getElem_cons_zero, List.setIfInBounds_toArray, List.set_cons_zero, List.set_cons_succ]
        refine wpAnyH_take (i := 1) (v := ?_) rfl (by kernel_rfl) (by kernel_rfl) (by kernel_rfl) (fun _ _ _ h => h) (Or.inl ⟨by rfl, ?_⟩) hS0 ?_
        rotate_left
        · rintro w' ⟨s1, s2, s3, s4, s5, s6, s7⟩
          go_simp
          first | done | with_reducible rfl | rfl
        simp only [Act.put, List.getElem_toArray, List.getElem_cons_succ, List.getElem_cons_zero, List.setIfInBounds_toArray, List.set_cons_zero, List.set_cons_succ]
        refine wpAnyH_take (i := 2) (v := ?_) rfl (by kernel_rfl) (by kernel_rfl) (by kernel_rfl) (fun _ _ _ h => h) (Or.inl ⟨by rfl, ?_⟩) hS0 ?_
        rotate_left
        · rintro w' ⟨s1, s2, s3, s4, s5, s6, s7⟩
          go_simp
          first | done | with_reducible rfl | rfl
        simp only [Act.put, List.getElem_toArray, List.getElem_cons_succ, List.getElem_cons_zero, List.setIfInBounds_toArray, List.set_cons_zero, List.set_cons_succ]
        refine wpAnyH_take (i := 3) (v := ?_) rfl (by kernel_rfl) (by kernel_rfl) (by kernel_rfl) (fun _ _ _ h => h) (Or.inl ⟨by rfl, ?_⟩) hS0 ?_
        rotate_left
        · rintro w' ⟨s1, s2, s3, s4, s5, s6, s7⟩
          go_simp
          first | done | with_reducible rfl | rfl
        simp only [Act.put, List.getElem_toArray, List.getElem_cons_succ, List.getElem_cons_zero, List.setIfInBounds_toArray, List.set_cons_zero, List.set_cons_succ]
        refine wpAnyH_ready (rs := [4]) (by kernel_rfl) (by simp) (AllReadyH.cons rfl (fun K hK => ?_) AllReadyH.nil)
        go_simp
        refine (add_any bK bS bk bm base v1 o4 y W0 E0.out.k S0.out.s S0.out.o S0.out.k FI.out.1 HWY.out (by have := FI.out.len; rw [HL.out] at this; omega) (vis_good HIE.out HRT.out) (by have := HCH.out.2; omega) (by have := HCH.out.2; omega) (Nat.le_trans hbase K0.out.size)).mono ?_
        rintro e W1 ⟨v2, rfl, a1, a2, a3, a4, a5, a6⟩
        dsimp only
        have E1 := Lib.hid (E0.out.ky S0.out.o HCH.out a5)
        have X1 := Lib.hid (X0.out.stay (a5.block gx X0.out.lt FP.out))
        have M1 := Lib.hid ((S0.out.m.stay a6).pre (addR_pre o4 y))
        have A1 := Lib.hid a1
        have A2 := Lib.hid a2
        have A3 := Lib.hid a3
        have A4 := Lib.hid a4
        have A5 := Lib.hid a5
        refine hK.out _ _ (vis_s E1.out X1.out) (fun _ => ?_)
        clear hK K a1 a2 a3 a4 a5 a6
        refine wpAnyH_ready (rs := [5]) (by kernel_rfl) (by simp) (AllReadyH.cons rfl (fun K hK => ?_) AllReadyH.nil)
        refine oper_store_mm (l := l) (out := (addR o4 y).1) (n := p + 1) (.tmp 41) (.tmp 42) (.tmp 45) rfl rfl rfl rfl M1.out (by have h1 := HIE.out.1; rw [HRT.out] at h1; exact h1) (by rw [HL.out]; omega) (by rw [HL.out]; omega) (by have h1 := HSP.out.num; rw [HRT.out] at h1; exact h1) ?_
        intro W2 m2 g2 l2
        simp only [Act.put, List.getElem_toArray, List.getElem_cons_succ, List.getElem_cons_zero, List.setIfInBounds_toArray, List.set_cons_zero, List.set_cons_succ]
        rw [show ((p + 1 : Nat) : Int) = (p : Int) + 1 by omega] at l2
        have Z := Lib.hid (vis_end HCH.out E1.out A1.out A2.out A3.out m2 g2)
        have X2 := Lib.hid (X1.out.stay (g2.block gx X1.out.lt (fun e => FP.out (.inr (.inr (.inl (Option.some.inj e)))))))
        have G2 := Lib.hid g2
        refine hK.out _ _ (vis_s Z.out.1 X2.out) (fun _ => ?_)
        clear hK K m2 g2
        refine wpAnyH_done (by kernel_rfl) ?_ _
        refine NoPanic.normal ?_
        have k5 := box_cell Z.out.1.n
        go_wp2_with fail
        try go_ret
        rw [HR.out]
        unfold RetW
        rw [HRT.out]
        refine ⟨v2, rfl, Z.out.2, ?_, ?_⟩
        · intro k hk
          rcases A4.out k hk with h1 | h1
          · exact FO.out k h1
          · exact .inr (Nat.le_trans K0.out.size h1)
        · refine (K0.out.trans A5.out (fun i hi hp => ?_)).gb G2.out (fun i _ e => .inr (.inr (.inl (Option.some.inj e).symm)))
          rcases hp with h1 | h1 | h1 | h1
          · exact .inl h1
          · exact .inr (.inl h1)
          · exact .inr (.inr (.inl h1))
          · rcases FO.out i h1 with h2 | h2
            · exact .inr (.inr (.inr h2))
            · omega
end Go.Proofs.Ytbcolelgbbmjkaa
