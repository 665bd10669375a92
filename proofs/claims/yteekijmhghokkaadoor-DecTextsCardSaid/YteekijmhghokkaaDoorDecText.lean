/-
  dec: the digits of a number, the lowest one first; its text.
-/
import Derived.Test.YteekijmhghokkaaDoorDecRev
import Derived.Test.YteekijmhghokkaaDoorLimbD
import Derived.Test.YteekijmhghokkaaDoorNumbA
import Derived.Laws.BytesString
import Derived.Laws.Concat
import Derived.Laws.IdiomStrings
import Derived.Laws.BytesArg

namespace Go.Proofs.YteekijmhghokkaaDoor
set_option linter.unusedVariables false
set_option linter.unusedSimpArgs false
open Go.RowKit Num Digs
theorem OwB.nil (w : World) (base : Nat) : OwB w base (.slice none 0 0) [] := World.ownsRow_nil _ _ _ _
theorem OwB.alloc {w : World} {base : Nat} {v : Value} {bs : List UInt8} (h : OwB w base v bs) (o : Obj) : OwB (w.alloc o) base v bs := World.ownsRow.alloc h o
theorem OwB.lt {w : World} {base : Nat} {v : Value} {bs : List UInt8} (h : OwB w base v bs) : ∀ k, v.ownBlock = some k → base ≤ k ∧ k < w.heap.size := World.ownsRow.lt h
/-- One byte more. -/
theorem OwB.snoc {w0 w w1 : World} {base : Nat} {v v' : Value} {bs : List UInt8} {o : Obj} {z : Int} {x : UInt8} (h : OwB w base v bs) (hb : Below base w0 w) (hz : z = (x.toNat : Int))
    (hown : w1.ownsRow base 5 1 v' (bs.length + 1) (bs.map u8v ++ [.int .u8 z])) (hg : (w.alloc o).grownBy w1 v.ownBlock) (hs : base ≤ w.heap.size) : OwB w1 base v' (bs ++ [x]) ∧ Below base w0 w1 := by
  constructor
  · unfold OwB
    rw [List.length_append, List.map_append]
    simp only [List.map_cons, List.map_nil, List.length_cons, List.length_nil, Nat.zero_add]
    subst hz
    exact hown
  · exact (hb.alloc hs o).grown hg (by simp; omega) (fun k hk => (h.lt k hk).1)
/-- A slice lies elsewhere than a row of the call's own. -/
def Apart (A : Option Addr) (v : Value) : Prop := ∀ a k, A = some a → v.ownBlock = some k → a.block ≠ k
theorem Us.apart {w w1 : World} {A : Option Addr} {c : Nat} {xs : List Nat} {v : Value} (h : Us w A c xs) (o : Obj) (hg : (w.alloc o).grownBy w1 v.ownBlock) (ha : Apart A v) : Us w1 A c xs :=
  ⟨h.1, h.2.1, h.2.2.1, fun hn => by
    obtain ⟨b, off, e, hlt, hc⟩ := h.2.2.2 hn
    have hlt2 : b < (w.alloc o).heap.size := by simp; omega
    refine ⟨b, off, e, Nat.lt_of_lt_of_le hlt2 hg.size, fun j u hu => ?_⟩
    rw [World.cell?_of_block (a := ⟨b, off + j, none⟩) (hg.block b hlt2 (fun e2 => ha _ _ e e2.symm rfl))]
    exact cell_alloc_l o (hc j u hu)⟩
theorem Apart.next {w : World} {A : Option Addr} {c : Nat} {xs : List Nat} {v v' : Value} (h : Us w A c xs) (hx : 0 < xs.length) (ha : Apart A v) {m : Nat} (hm : w.heap.size ≤ m) (hv : v'.ownBlock = v.ownBlock ∨ v'.ownBlock = some m) : Apart A v' := by
  intro a k e e2
  rcases hv with hv | hv
  · exact ha a k e (by rw [← hv]; exact e2)
  · obtain ⟨b, off, e3, hb⟩ := h.at_ hx
    rw [hv] at e2
    cases e2
    rw [e] at e3
    cases e3
    simp only
    omega
theorem pow_le_10 (len : Nat) : 4294967296 ^ len ≤ 10 ^ (10 * len) := by
  rw [Nat.pow_mul]
  exact Nat.pow_le_pow_left (by decide) _
theorem lt_of_pow {a b n : Nat} (h : 10 ^ a ≤ n) (h2 : n < 10 ^ b) : a < b := by
  rcases Nat.lt_or_ge a b with h3 | h3
  · exact h3
  · have : 10 ^ b ≤ 10 ^ a := Nat.pow_le_pow_right (by decide) h3
    omega
/-- What is left of the number, and the digits so far. -/
def BackRel (n len : Nat) (w : World) (k g : Nat) (A : Option Addr) (c : Nat) (ys : List Nat) (v : Value) (wr : World) : Prop :=
  Us wr A c ys ∧ (k = 0 ∨ Canon ys) ∧ ys.length ≤ len ∧ val ys = n / 10 ^ (9 * k) ∧ val ys + ys.length ≤ g ∧ OwB wr w.heap.size v (low (9 * k) n) ∧ Below w.heap.size w wr
theorem BackRel.few {n len k g : Nat} {w wr : World} {A : Option Addr} {c : Nat} {ys : List Nat} {v : Value} (h : BackRel n len w k g A c ys v wr) (hn : n < 4294967296 ^ len) (hy : 0 < ys.length) : 9 * k ≤ 10 * len := by
  obtain ⟨_, h1, _, h2, _⟩ := h
  rcases h1 with rfl | h1
  · omega
  · have h3 : 0 < val ys := by
      rcases Nat.eq_zero_or_pos (val ys) with h0 | h0
      · rw [canon_zero h1 h0] at hy
        simp at hy
      · exact h0
    rw [h2] at h3
    have h4 : 10 ^ (9 * k) ≤ n := by
      rcases Nat.lt_or_ge n (10 ^ (9 * k)) with h5 | h5
      · rw [Nat.div_eq_of_lt h5] at h3
        omega
      · exact h5
    have := lt_of_pow h4 (Nat.lt_of_lt_of_le hn (pow_le_10 len))
    omega
/-- Within a part: the digits so far. -/
def BackIn (n : Nat) (w : World) (k p j : Nat) (A : Option Addr) (c : Nat) (rs : List Nat) (bs : List UInt8) (v : Value) (wr : World) : Prop :=
  Us wr A c rs ∧ (0 < rs.length → Apart A v) ∧ OwB wr w.heap.size v bs ∧ Below w.heap.size w wr ∧ bs = low (9 * k) n ++ low j p
theorem BackIn.len {n k p j c : Nat} {w wr : World} {A : Option Addr} {rs : List Nat} {bs : List UInt8} {v : Value} (h : BackIn n w k p j A c rs bs v wr) : bs.length = 9 * k + j := by
  rw [h.2.2.2.2, List.length_append, low_length, low_length]
theorem BackIn.start {n len k g p c0 c : Nat} {w wr w1 : World} {A0 A : Option Addr} {ys rs : List Nat} {v : Value} (h : BackRel n len w k g A0 c0 ys v wr) (b : Below wr.heap.size wr w1) (q : Us w1 A c rs) (hn : ∀ a, A = some a → wr.heap.size ≤ a.block) : BackIn n w k p 0 A c rs (low (9 * k) n) v w1 := by
  obtain ⟨_, _, _, _, _, h1, h2⟩ := h
  refine ⟨q, fun _ a k e e2 => ?_, OwB.below h1 b, h2.trans (b.mono h2.size), by simp [low]⟩
  have := (h1.lt _ e2).2
  have := hn a e
  omega
theorem BackIn.next {n k p j c d : Nat} {w wr w1 : World} {A : Option Addr} {rs : List Nat} {bs : List UInt8} {v v' : Value} {o : Obj} {z : Int} (h : BackIn n w k p j A c rs bs v wr) (hd : d = p / 10 ^ j) (hz : z = 48 + (d : Int) % 10)
    (hown : w1.ownsRow w.heap.size 5 1 v' (bs.length + 1) (bs.map u8v ++ [.int .u8 z])) (hg : (wr.alloc o).grownBy w1 v.ownBlock) (hv : v'.ownBlock = v.ownBlock ∨ v'.ownBlock = some (wr.alloc o).heap.size) : BackIn n w k p (j + 1) A c rs (bs ++ [dig (d % 10)]) v' w1 := by
  obtain ⟨h1, h2, h3, h4, h5⟩ := h
  obtain ⟨g1, g2⟩ := OwB.snoc (x := dig (d % 10)) h3 h4 (by rw [hz, dig_nat (Nat.mod_lt _ (by decide))]; omega) hown hg h4.size
  refine ⟨?_, fun hr => Apart.next h1 hr (h2 hr) (by simp) hv, g1, g2, by rw [low_snoc, ← hd, ← List.append_assoc, h5]⟩
  rcases Nat.eq_zero_or_pos rs.length with h0 | h0
  · exact ⟨h1.1, h1.2.1, h1.2.2.1, fun hn => by simp at hn; omega⟩
  · exact h1.apart o hg (h2 h0)
/-- A part is through. -/
theorem BackIn.done {n len k g p c0 c : Nat} {w wr w1 : World} {A0 A : Option Addr} {ys rs : List Nat} {v v0 : Value} (h : BackRel n len w k g A0 c0 ys v0 wr) {bs : List UInt8} (hI : BackIn n w k p 9 A c rs bs v w1) (hd : Dig ys) (hk : Canon rs) (hv : val rs = val ys / 1000000000) (hp : p = val ys % 1000000000) (hy : 0 < ys.length) :
    ∃ g', g' < g ∧ BackRel n len w (k + 1) g' A c rs v w1 := by
  obtain ⟨_, h1, h2, h3, h4, _, _⟩ := h
  have hr : rs.length ≤ ys.length := len_le hk (by rw [hv]; exact Nat.lt_of_le_of_lt (Nat.div_le_self _ _) (val_lt hd))
  refine ⟨val rs + rs.length, ?_, hI.1, .inr hk, by omega, ?_, Nat.le_refl _, ?_, hI.2.2.2.1⟩
  · rcases Nat.eq_zero_or_pos (val ys) with h0 | h0
    · have : rs = [] := canon_zero hk (by rw [hv, h0])
      subst this
      simp [val]
      omega
    · omega
  · rw [hv, h3, Nat.div_div_eq_div_mul, Nat.mul_add, Nat.mul_one, Nat.pow_add]
  · have e : low (9 * (k + 1)) n = low (9 * k) n ++ low 9 p := by
      rw [Nat.mul_add, Nat.mul_one, low_add, ← h3, hp]
      congr 1
      have := low_mod 9 (val ys % 1000000000) (val ys / 1000000000)
      rw [show (10 : Nat) ^ 9 = 1000000000 from rfl, Nat.mod_add_div] at this
      exact this
    rw [e, ← hI.2.2.2.2]
    exact hI.2.2.1
set_option maxRecDepth 100000 in
set_option maxHeartbeats 3200000 in
theorem dback_any (A : Option Addr) (c : Nat) (xs : List Nat) (w : World) (h : Us w A c xs) (hl : xs.length ≤ 1000) :
    Calls Tryd.prog 26 #[.slice A xs.length c] w fun e w' => ∃ B c', e = .returned (.slice B (size (val xs)) c') ∧ OwB w' w.heap.size (.slice B (size (val xs)) c') (low (size (val xs)) (val xs)) ∧ Below w.heap.size w w' := by
  obtain ⟨i0, hi, hz0, hz1, hz2⟩ := info_parts Tryd.info8
  obtain ⟨n, hn⟩ : ∃ n, n = val xs := ⟨_, rfl⟩
  obtain ⟨len, hlen⟩ : ∃ len, len = xs.length := ⟨_, rfl⟩
  have HN := Lib.hid (show n < 4294967296 ^ len by rw [hn, hlen]; exact val_lt h.1)
  have R0 := Lib.hid (show BackRel n len w 0 (n + len) A c xs (.slice none 0 0) w from ⟨h, .inl rfl, by omega, by rw [← hn]; simp, by rw [hn, hlen]; omega, OwB.nil _ _, Below.refl _ _⟩)
  have HI := Lib.hid (And.intro hi (And.intro hz0 (And.intro hz1 hz2)))
  rw [← hn]
  have hcap := h.cap
  clear h hi hz0 hz1 hz2 hn
  have hl2 : len ≤ 1000 := by omega
  clear hlen
  go_enter Tryd.func26, Tryd.ntmps26
  go_wp2
  go_loopg [0, 3] (n + len) (fun g av v wr => ∃ (k : Nat) (A : Option Addr) (c : Nat) (ys : List Nat), av = .slice A ys.length c ∧ BackRel n len w k g A c ys v wr)
  case atStart => exact ⟨0, A, c, xs, rfl, R0.out⟩
  case round =>
    obtain ⟨k, A, c, ys, rfl, hR⟩ := hrel
    have R := Lib.hid hR
    have hyl := hR.2.2.1
    have hcap := hR.1.cap
    clear hR R0
    by_cases hlt : 0 < ys.length
    · have hk := R.out.few HN.out hlt
      obtain ⟨p, hp⟩ : ∃ p, p = val ys % 1000000000 := ⟨_, rfl⟩
      have hpl : p < 1000000000 := by rw [hp]; exact Nat.mod_lt _ (by decide)
      have hpz : ((val ys : Nat) : Int) % 1000000000 = (p : Int) := by rw [hp]; omega
      have HP := Lib.hid hp
      clear hp
      go_wp2_with (go_at_call 37; refine (div_yesF _ _ ys 1000000000 _ R.out.1 (by omega) (by omega) (by omega)).mono ?_; rintro e w1 ⟨A1, c1, r1, rfl, q1, k1, v1, b1, n1⟩; rw [← HP.out]; have Q := Lib.hid (And.intro q1 (And.intro k1 (And.intro v1 (And.intro b1 n1)))); clear q1 k1 v1 b1 n1)
      have I0 := Lib.hid (BackIn.start (p := p) R.out Q.out.2.2.2.1 Q.out.1 Q.out.2.2.2.2)
      clear hpz
      go_loopw [3, 4, 13] (fun v pv jv wr2 => ∃ (j : Nat) (bs : List UInt8), j ≤ 9 ∧ pv = .int .u32 ((p / 10 ^ j : Nat) : Int) ∧ jv = .int .i64 j ∧ BackIn n w k p j A1 c1 r1 bs v wr2) (fun _ _ jv _ => 9 - (intOf jv).toNat)
      case atStart => exact ⟨0, _, by omega, by simp, rfl, I0.out⟩
      case round =>
        obtain ⟨j, bs, hj, rfl, rfl, hI⟩ := hrel
        have I := Lib.hid hI
        have hbs := hI.2.2.2.1.size
        have hbl : bs.length ≤ 20000 := by have := hI.len; omega
        clear hI I0
        by_cases hj9 : j < 9
        · obtain ⟨d, hd⟩ : ∃ d, d = p / 10 ^ j := ⟨_, rfl⟩
          have hdl : d < 1000000000 := by rw [hd]; exact Nat.lt_of_le_of_lt (Nat.div_le_self _ _) hpl
          have HD2 := Lib.hid (show d / 10 = p / 10 ^ (j + 1) by rw [hd, Nat.div_div_eq_div_mul, Nat.pow_succ])
          rw [← hd]
          have HD := Lib.hid hd
          clear hd
          go_wp2_with (at_builtin; go_loud (refine wpList_append_own_at _ rfl _ _ 36 rfl w.heap.size 5 i0 (.int .u8 0) 1 1 Tryd.underlying36 HI.out.1 HI.out.2.1 HI.out.2.2.1 HI.out.2.2.2 rfl (by decide) _ _ _ rfl (I.out.2.2.1.alloc _) ⟨_, 0, none⟩ 1 1 [.int .u8 (48 + (d : Int) % 10)] rfl rfl (cell_one_new _ _ _) (by simp [Value.oneCell']) (by simp only [maxLen]; omega) (by omega) (by simp; omega) ?_; intro v2 w2 own2 grow2 _ at2))
          go_roundw
          case rel => exact ⟨j + 1, _, by omega, by rw [← HD2.out]; go_num, by go_num, BackIn.next I.out HD.out rfl own2 grow2 at2⟩
          case measure => simp [intOf]; omega
        · obtain rfl : j = 9 := by omega
          obtain ⟨g', hg, hR⟩ := BackIn.done R.out I.out R.out.1.1 Q.out.2.1 Q.out.2.2.1 HP.out hlt
          have RN := Lib.hid hR
          clear hR
          go_wp2
          go_roundg g'
          case measure => exact hg
          case rel => exact ⟨k + 1, A1, c1, r1, rfl, RN.out⟩
    · have hy0 : ys = [] := List.eq_nil_of_length_eq_zero (by omega)
      obtain ⟨hB, hO⟩ := R.out.2.2.2.2.2.symm
      have hv := R.out.2.2.2.1
      rw [hy0] at hv
      have hz : n < 10 ^ (9 * k) := by
        rcases Nat.lt_or_ge n (10 ^ (9 * k)) with h | h
        · exact h
        · have := Nat.div_pos h (Nat.pow_pos (by decide))
          simp [val] at hv
          omega
      obtain ⟨B, c9, hvs⟩ := own_shape hO
      subst hvs
      have e := low_size hz
      have sl := size_le hz
      have T := Lib.hid (trimr_any B c9 (size n) (low (9 * k) n) wr hO.rd.2 (by rw [low_length]; exact sl) (fun j h1 h2 => by
        rw [low_length] at h2
        rw [e, List.getElem?_append_right (by rw [low_length]; exact h1), low_length, List.getElem?_replicate, if_pos (by omega)]) (fun j hj => by
        have hp : 0 < n := by
          rcases Nat.eq_zero_or_pos n with h0 | h0
          · rw [h0, size_zero] at hj; omega
          · exact h0
        obtain ⟨r, d, h1, h2, h3⟩ := low_last hp
        have hl : (low (size n) n).length = r.length + 1 := by rw [h1]; simp
        rw [low_length] at hl
        rw [e, h1, List.append_assoc, List.getElem?_append_right (by omega), show j - r.length = 0 by omega]
        simp
        intro e2
        have := dig_inj h3 (by decide) (show dig d = dig 0 from e2)
        omega))
      have O := Lib.hid (show OwB wr w.heap.size (.slice B (size n) c9) (low (size n) n) by
        have h1 := OwB.take hO (k := size n) (by rw [low_length]; exact sl)
        rwa [e, List.take_left' (low_length _ _)] at h1)
      have BB := Lib.hid hB
      obtain ⟨m, hm⟩ : ∃ m, m = (low (9 * k) n).length := ⟨_, rfl⟩
      rw [← hm] at T ⊢
      clear e sl hv hz hO hB hy0 hyl R hm
      go_wp2_with (go_at_call 38; go_loud (refine T.out.mono ?_; rintro e w1 ⟨rfl, rfl⟩))
      go_ret
      exact ⟨B, c9, rfl, O.out, BB.out⟩
theorem add_plain' (b o j : Nat) : (⟨b, o, none⟩ : Addr).add j = ⟨b, o + j, none⟩ := by unfold Addr.add; split <;> simp_all
/-- Bytes of the call's own as a string. -/
theorem conv_own {w : World} {base n c : Nat} {A : Option Addr} {bs : List UInt8} (h : OwB w base (.slice A n c) bs) : (convert 36 9 (.slice A n c)).run Tryd.prog w = .ok (.string ⟨bs.toArray⟩) w := by
  obtain ⟨rfl, hr⟩ := h.rd
  rcases Nat.eq_zero_or_pos bs.length with h0 | h0
  · have e : bs = [] := List.eq_nil_of_length_eq_zero h0
    subst e
    cases A with
    | none => exact run_convert_bytes_nil w 36 5 Tryd.underlying36 Tryd.underlying5 _ _ _ Tryd.underlying9
    | some a => exact run_convert_bytes_back w _ _ 5 a c [] Tryd.underlying36 Tryd.underlying5 Tryd.underlying9 (fun j hj => by simp at hj)
  · obtain ⟨b, off, rfl, hb, hc⟩ := hr.2.2 (by simpa using h0)
    refine run_convert_bytes_back w _ _ 5 _ c bs Tryd.underlying36 Tryd.underlying5 Tryd.underlying9 (fun j hj => ?_)
    rw [add_plain']
    exact hc j _ (by rw [List.getElem?_map, List.getElem?_eq_getElem hj]; rfl)
/-- What a call that answers a text leaves. -/
def RetT8 (l : List UInt8) (w : World) (e : Ending) (w' : World) : Prop := e = .returned (.string ⟨l.toArray⟩) ∧ Below w.heap.size w w'
theorem size_few {n len : Nat} (h : n < 4294967296 ^ len) : size n ≤ 10 * len := size_le (Nat.lt_of_lt_of_le h (pow_le_10 len))
set_option maxRecDepth 100000 in
set_option maxHeartbeats 3200000 in
theorem text_any (s : Bool) (A : Option Addr) (c : Nat) (xs : List Nat) (w : World) (h : Us w A c xs) (hl : xs.length ≤ 1000) :
    Calls Tryd.prog 12 #[.agg #[.bool s, .slice A xs.length c]] w (RetT8 (text s (val xs)) w) := by
  obtain ⟨i0, hi, hz0, hz1, hz2⟩ := info_parts Tryd.info8
  obtain ⟨n, hn⟩ : ∃ n, n = val xs := ⟨_, rfl⟩
  have hcap := h.cap
  have H := Lib.hid (h.below ((Below.refl w.heap.size w).alloc (Nat.le_refl _) (.cells #[.bool s, .slice A xs.length c] 24)))
  have b0 := (Below.refl w.heap.size w).alloc (Nat.le_refl _) (.cells #[.bool s, .slice A xs.length c] 24)
  have C := dback_any A c xs _ H.out hl
  obtain ⟨hX, _⟩ := box1 w (.bool s) (.slice A xs.length c) 24
  have HX := Lib.hid hX
  rw [← hn] at C ⊢
  have hm0 := size_few (n := n) (by rw [hn]; exact val_lt h.1)
  have hs0 : n = 0 → size n = 0 := fun e => by rw [e, size_zero]
  have hs1 : 0 < n → 0 < size n := fun e => by rw [size_pos e]; omega
  have HT : ∀ r, r = (if s then (if n = 0 then low (size n) n ++ [48] else low (size n) n) ++ [45] else (if n = 0 then low (size n) n ++ [48] else low (size n) n)).reverse → r = text s n := fun r hr => by
    subst hr
    unfold text digs
    cases s
    · by_cases h0 : n = 0
      · simp [h0, size_zero, low]
      · simp [h0]
    · by_cases h0 : n = 0
      · simp [h0, size_zero, low]
      · simp [h0]
  obtain ⟨r, hr⟩ : ∃ r, r = text s n := ⟨_, rfl⟩
  rw [← hr]
  have hLl := low_length (size n) n
  generalize low (size n) n = L at *
  generalize size n = m at *
  have HC := Lib.hid C
  have HI := Lib.hid (And.intro hi (And.intro hz0 (And.intro hz1 hz2)))
  have HB := Lib.hid b0
  have HTT := Lib.hid (And.intro HT hr)
  have HLL := Lib.hid hLl
  have hL2 : L.length ≤ 10000 := by omega
  have tok0 : True := trivial
  obtain ⟨B0, hB0⟩ : ∃ B0, B0 = (w.alloc (.cells #[.bool s, .slice A xs.length c] 24)).heap.size := ⟨_, rfl⟩
  rw [← hB0] at HC
  have HB0 := Lib.hid hB0
  clear C h hi hz0 hz1 hz2 hn hX b0 HT hr hLl H hB0
  rcases Nat.eq_zero_or_pos n with h0 | h0 <;> cases s
  all_goals
    first
      | (have hm := hs0 h0; clear hs0 hs1; subst h0; have hL0 : L = [] := List.eq_nil_of_length_eq_zero (by rw [HLL.out]; exact hm); subst hL0; subst hm)
      | (have hm := hs1 h0; clear hs0 hs1; have h1 : ¬ n = 0 := by omega)
    obtain ⟨x1, x2, x3, x4, x5⟩ := HX.out
    go_enter Tryd.func12, Tryd.ntmps12
    go_wp2_with (first
      | (go_at_call 26; go_loud (refine HC.out.mono ?_; rintro e w1 ⟨B, c9, rfl, hO, hb⟩; clear x3 x4 x5; obtain ⟨x1, x2, _, _, _⟩ := HX.out.below (hb.mono (by rw [HB0.out]; simp)); have O := Lib.hid (And.intro hO (And.intro hb (by have := hb.size; rw [← HB0.out] at this; exact this))); clear hO hb))
      | (at_builtin; go_loud (refine wpList_append_own_at _ rfl _ _ 36 rfl B0 5 i0 (.int .u8 0) 1 1 Tryd.underlying36 HI.out.1 HI.out.2.1 HI.out.2.2.1 HI.out.2.2.2 rfl (by decide) _ _ _ rfl (O.out.1.alloc _) ⟨_, 0, none⟩ 1 1 [.int .u8 _] rfl rfl (cell_one_new _ _ _) (by simp [Value.oneCell']) (by simp only [maxLen]; (try simp); (try omega)) (by (try simp); (try omega)) (by have := O.out.2.2; simp; omega) ?_; intro v2 w2 own2 grow2 _ at2; (first | (have q := OwB.snoc (x := 48) O.out.1 O.out.2.1 rfl own2 grow2 O.out.2.2) | (have q := OwB.snoc (x := 45) O.out.1 O.out.2.1 rfl own2 grow2 O.out.2.2)); obtain ⟨A3, c3, hv3⟩ := own_shape own2; subst hv3; have hs2 := Nat.le_trans O.out.2.2 (Nat.le_trans (Nat.le_succ _) (by have := grow2.size; simpa using this)); clear own2 grow2 at2; obtain ⟨x1, x2, _, _, _⟩ := HX.out.below (q.2.mono (by rw [HB0.out]; simp)); have O := Lib.hid (And.intro q.1 (And.intro q.2 hs2)); clear q hs2))
      | (go_at_call 27; go_loud (refine (reverse_any _ _ _ B0 _ _ O.out.1 (by (try simp); (try omega))).mono ?_; rintro e w5 ⟨rfl, hO, hb⟩; have hcv := conv_own hO; (try simp only [List.length_nil, List.length_append, List.length_cons, List.nil_append, Nat.zero_add, Nat.reduceAdd] at hcv); have hb2 := Lib.hid (O.out.2.1.trans hb); clear hO hb; obtain ⟨x1, x2, _, _, _⟩ := HX.out.below (hb2.out.mono (by rw [HB0.out]; simp)))))
    go_ret
    refine ⟨?_, HB.out.trans (hb2.out.mono (by rw [HB0.out]; simp))⟩
    have e := HTT.out.1 _ rfl
    rw [HTT.out.2, ← e]
    simp [*]
end Go.Proofs.YteekijmhghokkaaDoor
