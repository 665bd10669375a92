/-
  canon: ordered's visit.
  canon: alive.
  canon: how long a quad is, plain.
-/
import Derived.Test.YtlnmcilcifbcnaaGNcAd
import Derived.Laws.EntriesVeiled
import Derived.Test.YtlnmcilcifbcnaaGClSo
import Derived.LoopN
import Derived.Test.YtlnmcilcifbcnaaGNcRV

set_option linter.unusedVariables false
set_option linter.unusedSimpArgs false
set_option maxRecDepth 100000
namespace Go.Proofs.Ytlnmcilcifbcnaa
open Go.RowKit Nds
def addF (bK bS : Nat) : Value := .func (.func 106) #[] #[.pointer (some ⟨bK, 0, none⟩), .pointer (some ⟨bS, 0, none⟩)]
def visF (bN bL bV bA : Nat) : Value := .func (.func 107) #[] #[.pointer (some ⟨bN, 0, none⟩), .pointer (some ⟨bL, 0, none⟩), .pointer (some ⟨bV, 0, none⟩), .pointer (some ⟨bA, 0, none⟩)]
structure Env (w : World) (A : Option Addr) (c n bL bS bk bK bA bm bN bV : Nat) : Prop where
 l : w.heap[bL]? = some (.cells #[.slice A n c] 29)
 k : w.heap[bK]? = some (.cells #[.map (some bk)] 129)
 a : w.heap[bA]? = some (.cells #[addF bK bS] 130)
 n : w.heap[bN]? = some (.cells #[.map (some bm)] 131)
 v : w.heap[bV]? = some (.cells #[visF bN bL bV bA] 78)
def Chn (A : Option Addr) (bL bS bk bK bA bm bN bV base : Nat) : Prop := (∀ a, A = some a → a.block < bL) ∧ bL < bS ∧ bS < bk ∧ bk < bK ∧ bK < bA ∧ bA < bm ∧ bm < bN ∧ bN < bV ∧ bV < base
theorem ps_not {bS bk bm base b : Nat} {v : Value} {w : World} {out : List Nd} (ho : OwnN w base v out) (h1 : b ≠ bS) (h2 : b ≠ bk) (h3 : b ≠ bm) (h4 : b < base) : ¬ PS bS bk bm v b := by
 rintro (h | h | h | h)
 ·
  exact h1 h
 ·
  exact h2 h
 ·
  exact h3 h
 ·
  exact absurd (ho.lt b h).1 (Nat.not_le.2 h4)
theorem Env.ky {w w' : World} {A : Option Addr} {c n bL bS bk bK bA bm bN bV base : Nat} {v : Value} {out : List Nd} (h : Env w A c n bL bS bk bK bA bm bN bV) (ho : OwnN w base v out) (hc : Chn A bL bS bk bK bA bm bN bV base) (k : Ky (PS bS bk bm v) w w') : Env w' A c n bL bS bk bK bA bm bN bV := by
 obtain ⟨_, h1, h2, h3, h4, h5, h6, h7, h8⟩ := hc
 have key : ∀ b {o : Obj}, w.heap[b]? = some o → b ≠ bS → b ≠ bk → b ≠ bm → b < base → w'.heap[b]? = some o := fun b o hb a1 a2 a3 a4 => (k.block b (box_lt hb) (ps_not ho a1 a2 a3 a4)).trans hb
 exact ⟨key bL h.l (by omega) (by omega) (by omega) (by omega), key bK h.k (by omega) (by omega) (by omega) (by omega), key bA h.a (by omega) (by omega) (by omega) (by omega), key bN h.n (by omega) (by omega) (by omega) (by omega), key bV h.v (by omega) (by omega) (by omega) (by omega)⟩
end Go.Proofs.Ytlnmcilcifbcnaa

namespace Go.Proofs.Ytlnmcilcifbcnaa
open Go.RowKit Nds
theorem rof_at (A : Option Addr) (c n : Nat) (l : List Nd) (k : Int) (q : List Nd) (qn : Nat) (er : Int) (w : World) (h : Ns w A c l) (hn : l.length = n) (hn9 : n ≤ 900000) (hA : A = none → c = 0) (hq : ofQ l k = q) (hqn : q.length = qn) (he : ofE l k = er) :
  Calls Try.prog 21 #[.slice A n c, .int .i64 k] w fun e w' => ∃ A' c', e = .returned (.tuple #[.agg #[.slice A' qn c'], .int .i64 er]) ∧ Ns w' A' c' q ∧ (A' = none → c' = 0) ∧ Below w.heap.size w w' :=
 (rof_any A c n l k w h hn hn9 hA).mono fun e w' ⟨A', c', h1, h2, h3, h4⟩ => ⟨A', c', by rw [← hqn, ← hq, ← he]; exact h1, by rw [← hq]; exact h2, h3, h4⟩
structure Al (w W : World) (L : List (Option Addr × Nat × List Nd)) (M : List (Nat × Value)) : Prop where
 sn : Sn w W L
 bx : ∀ t ∈ M, W.heap[t.1]? = some (.cells #[t.2] 31)
theorem Al.start (w : World) : Al w w [] [] := ⟨Sn.start w, by simp⟩
theorem Al.step {w W W' : World} {L : List (Option Addr × Nat × List Nd)} {M : List (Nat × Value)} (s : Al w W L M) (b : Below W.heap.size W W') : Al w W' L M :=
 ⟨s.sn.step b, fun t ht => (b.block t.1 (box_lt (s.bx t ht))).trans (s.bx t ht)⟩
theorem Al.alloc {w W : World} {L : List (Option Addr × Nat × List Nd)} {M : List (Nat × Value)} (s : Al w W L M) (o : Obj) : Al w (W.alloc o) L M := s.step ((Below.refl _ W).alloc (Nat.le_refl _) o)
theorem Al.addN {w W : World} {L : List (Option Addr × Nat × List Nd)} {M : List (Nat × Value)} (s : Al w W L M) {A : Option Addr} {c : Nat} {l : List Nd} (h : Ns W A c l) : Al w W ((A, c, l) :: L) M := ⟨s.sn.add h, s.bx⟩
theorem Al.addB {w W : World} {L : List (Option Addr × Nat × List Nd)} {M : List (Nat × Value)} (s : Al w W L M) (v : Value) : Al w (W.alloc (.cells #[v] 31)) L ((W.heap.size, v) :: M) :=
 ⟨(s.alloc _).sn, fun t ht => by
  rcases List.mem_cons.1 ht with rfl | ht
  ·
   exact heap_alloc_new W _
  ·
   exact (s.alloc _).bx t ht⟩
theorem Al.getN {w W : World} {L : List (Option Addr × Nat × List Nd)} {M : List (Nat × Value)} (s : Al w W L M) {A : Option Addr} {c : Nat} {l : List Nd} (h : (A, c, l) ∈ L) : Ns W A c l := s.sn.get h
theorem Al.getB {w W : World} {L : List (Option Addr × Nat × List Nd)} {M : List (Nat × Value)} (s : Al w W L M) {g : Nat} {v : Value} (h : (g, v) ∈ M) : W.cell? ⟨g, 0, none⟩ = some v := box_cell (s.bx _ h)
end Go.Proofs.Ytlnmcilcifbcnaa

namespace Go.Proofs.Ytlnmcilcifbcnaa
open Go.RowKit Nds
theorem ss_end {l : List Nd} {t : Tr} : ∀ (m : Nat) (cur : List Nd) (p : Nat), (at_ cur p).lv ≤ m → SS l t cur p → ∃ cur' p', SS l t cur' p' ∧ holT (den cur' (p' + 1)) = false := by
 intro m
 induction m with
 | zero =>
  intro cur p hm h
  have := fit_lv (loose_fit h.1 h.2.1)
  omega
 | succ m ih =>
  intro cur p hm h
  cases hh : holT (den cur (p + 1)) with
  | false => exact ⟨cur, p, h, hh⟩
  | true =>
   refine ih _ _ ?_ (h.next hh)
   rw [at_last]
   show (at_ cur p).lv - 1 ≤ _
   omega
theorem ofL_len {l : List Nd} (hl : looseB l = true) {n : Nat} (hn : n ≤ l.length) : (OfL l n).length ≤ l.length + 1328 := by
 cases n with
 | zero =>
  unfold OfL
  rw [den_zero, shr_e]
  exact Nat.zero_le _
 | succ p =>
  by_cases he : den l (p + 1) = .e
  ·
   unfold OfL
   rw [he, shr_e]
   exact Nat.zero_le _
  ·
   have hs := SS.start hl (p := p) (by omega) he
   have hv := fit_lv (loose_fit hl (i := p) (by omega))
   obtain ⟨cur, q, h1, h2⟩ := ss_end 1329 l p hv.2 hs
   have h3 := h1.len
   have h4 := inv_enc h1.1 (q + 1) [] (by have := h1.2.1; omega) (inv_nil cur)
   have h5 := h4.len
   have h6 : den cur (q + 1) = shrT (den l (p + 1)) := by rw [← h1.2.2.2.1, shr_done h2]
   rw [h6] at h5
   exact Nat.le_trans h5 h3
theorem ofQ_len (l : List Nd) (k : Int) : (ofQ l k).length ≤ l.length + 1328 := by
 unfold ofQ
 split
 ·
  rename_i h
  unfold okB at h
  rw [Bool.and_eq_true, decide_eq_true_iff] at h
  exact ofL_len h.1 (by omega)
 ·
  exact Nat.zero_le _
end Go.Proofs.Ytlnmcilcifbcnaa
