/-
  The reference's Text.
-/
import Derived.Test.YteekijmhghokkaaDoorDecText
import Derived.Test.YteekijmhghokkaaDoorLimbF

namespace Go.Proofs.YteekijmhghokkaaDoor
set_option linter.unusedVariables false
set_option linter.unusedSimpArgs false
open Go.RowKit Num Digs
theorem len_nil {r : List Nat} (h : ((r.length : Int) == 0) = true) : r = [] := List.eq_nil_of_length_eq_zero (by simpa using h)
theorem len_pos {r : List Nat} (h : ((r.length : Int) == 0) = false) : 0 < r.length := by
  have : r ≠ [] := by simpa using h
  exact List.length_pos_iff.2 this
theorem ba_of {t : ByteArray} {l : List UInt8} (h : t.data.toList = l) : t = ⟨l.toArray⟩ := by
  subst h
  cases t
  rfl
theorem ba_append (a b : ByteArray) : (a ++ b).data.toList = a.data.toList ++ b.data.toList := by simp
/-- A byte as a string. -/
theorem conv_one {z : Int} {x : UInt8} (hz : z = (x.toNat : Int)) (W : World) : (convert 36 9 (.slice (some ⟨W.heap.size, 0, none⟩) 1 1)).run Tryd.prog (W.alloc (.cells #[.int .u8 z] 5)) = .ok (.string ⟨#[x]⟩) (W.alloc (.cells #[.int .u8 z] 5)) := by
  subst hz
  refine run_convert_bytes_back (P := Tryd.prog) (W.alloc (.cells #[.int .u8 (x.toNat : Int)] 5)) _ _ 5 ⟨W.heap.size, 0, none⟩ 1 [x] Tryd.underlying36 Tryd.underlying5 Tryd.underlying9 (fun j hj => ?_)
  simp only [List.length_cons, List.length_nil] at hj
  obtain rfl : j = 0 := by omega
  rw [add_plain']
  exact (cell_new_l W (.int .u8 (x.toNat : Int)) 5).1
def RTextRel (n len : Nat) (w : World) (k g : Nat) (A : Option Addr) (c : Nat) (ys : List Nat) (t : ByteArray) (wr : World) : Prop :=
  Us wr A c ys ∧ ys.length ≤ len ∧ (k = 0 ∨ 10 ^ k ≤ n) ∧ val ys = n / 10 ^ k ∧ val ys ≤ g ∧ t.data.toList = (low k n).reverse ∧ Below w.heap.size w wr
theorem RTextRel.few {n len k g c : Nat} {w wr : World} {A : Option Addr} {ys : List Nat} {t : ByteArray} (h : RTextRel n len w k g A c ys t wr) (hn : n < 4294967296 ^ len) : t.size ≤ 10 * len := by
  have h1 : t.size = k := by rw [← ba_len, h.2.2.2.2.2.1, List.length_reverse, low_length]
  rcases h.2.2.1 with h2 | h2
  · omega
  · have := lt_of_pow h2 (Nat.lt_of_lt_of_le hn (pow_le_10 len))
    omega
theorem RTextRel.next {n len k g c c1 d : Nat} {w wr w1 w2 : World} {A A1 : Option Addr} {ys rs : List Nat} {t : ByteArray} (h : RTextRel n len w k g A c ys t wr) (hl : Dig ys) (q : Us w1 A1 c1 rs) (hk : Canon rs) (hv : val rs = val ys / 10) (hd : d = val ys % 10) (b : Below wr.heap.size wr w1) (b2 : Below w1.heap.size w1 w2) (hr : 0 < rs.length) :
    ∃ g', g' < g ∧ RTextRel n len w (k + 1) g' A1 c1 rs (⟨#[dig d]⟩ ++ t) w2 := by
  obtain ⟨_, h1, h2, h3, h4, h5, h6⟩ := h
  have hp : 0 < val rs := by
    rcases Nat.eq_zero_or_pos (val rs) with h0 | h0
    · rw [canon_zero hk h0] at hr
      simp at hr
    · exact h0
  have hb := h6.trans (b.mono h6.size)
  refine ⟨val rs, by omega, q.below b2, ?_, .inr ?_, ?_, Nat.le_refl _, ?_, hb.trans (b2.mono hb.size)⟩
  · have : rs.length ≤ ys.length := len_le hk (by rw [hv]; exact Nat.lt_of_le_of_lt (Nat.div_le_self _ _) (val_lt hl))
    omega
  · rw [hv, h3, Nat.div_div_eq_div_mul, ← Nat.pow_succ] at hp
    rcases Nat.lt_or_ge n (10 ^ (k + 1)) with h7 | h7
    · rw [Nat.div_eq_of_lt h7] at hp
      omega
    · exact h7
  · rw [hv, h3, Nat.div_div_eq_div_mul, ← Nat.pow_succ]
  · rw [ba_append, h5, low_snoc, ← h3, ← hd]
    simp
theorem RTextRel.last {n len k g c d : Nat} {w wr : World} {A : Option Addr} {ys rs : List Nat} {t : ByteArray} (h : RTextRel n len w k g A c ys t wr) (hv : val rs = val ys / 10) (hd : d = val ys % 10) (hr : rs = []) :
    (⟨#[dig d]⟩ ++ t).data.toList = digs n := by
  obtain ⟨_, h1, h2, h3, h4, h5, h6⟩ := h
  subst hr
  have hz : n < 10 ^ (k + 1) := by
    rw [h3, Nat.div_div_eq_div_mul, ← Nat.pow_succ] at hv
    rcases Nat.lt_or_ge n (10 ^ (k + 1)) with h7 | h7
    · exact h7
    · have := Nat.div_pos h7 (Nat.pow_pos (by decide))
      simp [val] at hv
      omega
  have e : (⟨#[dig d]⟩ ++ t).data.toList = (low (k + 1) n).reverse := by
    rw [ba_append, h5, low_snoc, ← h3, ← hd]
    simp
  rw [e]
  unfold digs
  by_cases h0 : n = 0
  · subst h0
    have : k = 0 := by
      rcases h2 with h2 | h2
      · exact h2
      · have := Nat.pow_pos (n := k) (show 0 < 10 by decide)
        omega
    subst this
    rfl
  · rw [if_neg h0]
    have : size n = k + 1 := by
      rcases h2 with h2 | h2
      · subst h2
        exact size_eq hz (by simp; omega)
      · exact size_eq hz h2
    rw [this]
set_option maxRecDepth 100000 in
set_option maxHeartbeats 3200000 in
theorem rtext_any (s : Bool) (A : Option Addr) (c : Nat) (xs : List Nat) (w : World) (h : Us w A c xs) (hl : xs.length ≤ 1000) :
    Calls Tryd.prog 13 #[.agg #[.bool s, .slice A xs.length c]] w (RetT8 (text s (val xs)) w) := by
  obtain ⟨n, hn⟩ : ∃ n, n = val xs := ⟨_, rfl⟩
  obtain ⟨len, hlen⟩ : ∃ len, len = xs.length := ⟨_, rfl⟩
  have hcap := h.cap
  have HN := Lib.hid (show n < 4294967296 ^ len by rw [hn, hlen]; exact val_lt h.1)
  obtain ⟨hX, hB⟩ := box1 w (.bool s) (.slice A xs.length c) 24
  have HX := Lib.hid hX
  have HB := Lib.hid hB
  have R0 := Lib.hid (show RTextRel n len w 0 n A c xs ⟨#[]⟩ (w.alloc (.cells #[.bool s, .slice A xs.length c] 24)) from ⟨h.below hB, by omega, .inl rfl, by rw [← hn]; simp, by omega, by simp [low], hB⟩)
  obtain ⟨x1, x2, x3, x4, x5⟩ := hX
  rw [← hn]
  have hl2 : len ≤ 1000 := by omega
  clear h hn hlen hB
  go_enter Tryd.func13, Tryd.ntmps13
  go_wp2
  go_loopg [3, 4] n (fun g sv lv wr => ∃ (k : Nat) (A1 : Option Addr) (c1 : Nat) (ys : List Nat) (t : ByteArray), sv = .string t ∧ lv = .slice A1 ys.length c1 ∧ RTextRel n len w k g A1 c1 ys t wr ∧ Box wr w.heap.size (.bool s) (.slice A xs.length c))
  case atStart => exact ⟨0, A, c, xs, _, rfl, rfl, R0.out, HX.out⟩
  case round =>
    obtain ⟨k, A1, c1, ys, t, rfl, rfl, hR, hBx⟩ := hrel
    have R := Lib.hid hR
    have BX := Lib.hid hBx
    have hyl := hR.2.1
    have ht := hR.few HN.out
    have hcap1 := hR.1.cap
    clear hR R0 hBx x1 x2 x3 x4 x5
    obtain ⟨d, hd⟩ : ∃ d, d = val ys % 10 := ⟨_, rfl⟩
    have hdl : d < 10 := by rw [hd]; exact Nat.mod_lt _ (by decide)
    have HD := Lib.hid hd
    have hcv := conv_one (z := 48 + (d : Int)) (x := dig d) (by rw [dig_nat hdl]; omega)
    have hsz : (⟨#[dig d]⟩ : ByteArray).size = 1 := rfl
    clear hd
    go_wp2_with (go_at_call 28; go_loud (refine (rdiv_yes _ _ ys 10 _ R.out.1 (by omega) (by omega) (by omega)).mono ?_; rintro e w1 ⟨A2, c2, r2, rfl, q2, k2, v2, b2⟩; rw [← HD.out]; have hcap2 := q2.cap; obtain ⟨x1, x2, _, _, _⟩ := BX.out.below b2; have Q := Lib.hid (And.intro q2 (And.intro k2 (And.intro v2 b2))); clear q2 k2 v2 b2))
    all_goals
      first
        | (have hr0 : r2 = [] := len_nil (by assumption)
           have L := RTextRel.last R.out Q.out.2.2.1 HD.out hr0
           go_ret
           refine ⟨?_, ?_⟩
           · first
               | (have hs : s = true := by assumption
                  subst hs
                  show Ending.returned (.string (⟨#[45]⟩ ++ (⟨#[dig d]⟩ ++ t))) = _
                  rw [ba_of (t := ⟨#[45]⟩ ++ (⟨#[dig d]⟩ ++ t)) (l := text true n) (by rw [ba_append, L]; rfl)])
               | (have hs : s = false := by assumption
                  subst hs
                  show Ending.returned (.string (⟨#[dig d]⟩ ++ t)) = _
                  rw [ba_of L]
                  rfl)
           · have hb := R.out.2.2.2.2.2.2
             have hb1 := hb.trans (Q.out.2.2.2.mono hb.size)
             exact hb1.alloc hb1.size _)
        | (have hr0 : 0 < r2.length := len_pos (by assumption)
           obtain ⟨g', hg, hR⟩ := RTextRel.next R.out R.out.1.1 Q.out.1 Q.out.2.1 Q.out.2.2.1 HD.out Q.out.2.2.2 ((Below.refl w1.heap.size w1).alloc (Nat.le_refl _) (.cells #[.int .u8 (48 + (d : Int))] 5)) hr0
           have RN := Lib.hid hR
           clear hR
           go_roundg g'
           case measure => exact hg
           case rel => exact ⟨k + 1, A2, c2, r2, _, rfl, rfl, RN.out, (BX.out.below Q.out.2.2.2).alloc _⟩)
end Go.Proofs.YteekijmhghokkaaDoor
