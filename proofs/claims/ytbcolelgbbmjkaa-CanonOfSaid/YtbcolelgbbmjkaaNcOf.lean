/-
  canon: CanonOf, the walk.
-/
import Derived.Test.YtbcolelgbbmjkaaNcAl
import Derived.Test.YtbcolelgbbmjkaaNdRRight

namespace Go.Proofs.Ytbcolelgbbmjkaa
set_option linter.unusedVariables false
set_option linter.unusedSimpArgs false
open Go.RowKit Nds
theorem ss_end {l : List Nd} {t : Tr} : ∀ (m : Nat) (cur : List Nd) (p : Nat), (at_ cur p).lv ≤ m → SS l t cur p → ∃ cur' p', SS l t cur' p' ∧ holT (den cur' (p' + 1)) = false := by
  intro m
  induction m with
  | zero =>
    intro cur p hm h
    have := fit_lv (loose_fit h.1 h.2.1)
    omega
  | succ m ih =>
    intro cur p hm h
    cases hh : holT (den cur (p + 1)) with
    | false => exact ⟨cur, p, h, hh⟩
    | true =>
      refine ih _ _ ?_ (h.next hh)
      rw [at_last]
      show (at_ cur p).lv - 1 ≤ _
      omega
theorem ofL_len {l : List Nd} (hl : looseB l = true) {n : Nat} (hn : n ≤ l.length) : (OfL l n).length ≤ l.length + 1328 := by
  cases n with
  | zero =>
    unfold OfL
    rw [den_zero, shr_e]
    exact Nat.zero_le _
  | succ p =>
    by_cases he : den l (p + 1) = .e
    · unfold OfL
      rw [he, shr_e]
      exact Nat.zero_le _
    · have hs := SS.start hl (p := p) (by omega) he
      have hv := fit_lv (loose_fit hl (i := p) (by omega))
      obtain ⟨cur, q, h1, h2⟩ := ss_end 1329 l p hv.2 hs
      have h3 := h1.len
      have h4 := inv_enc h1.1 (q + 1) [] (by have := h1.2.1; omega) (inv_nil cur)
      have h5 := h4.len
      have h6 : den cur (q + 1) = shrT (den l (p + 1)) := by rw [← h1.2.2.2.1, shr_done h2]
      rw [h6] at h5
      exact Nat.le_trans h5 h3
theorem ofQ_len (l : List Nd) (k : Int) : (ofQ l k).length ≤ l.length + 1328 := by
  unfold ofQ
  split
  · rename_i h
    unfold okB at h
    rw [Bool.and_eq_true, decide_eq_true_iff] at h
    exact ofL_len h.1 (by omega)
  · exact Nat.zero_le _
theorem ofQ_quad (l : List Nd) (k : Int) : quadB (ofQ l k) = true := by
  unfold ofQ
  split
  · rename_i h
    unfold okB at h
    rw [Bool.and_eq_true, decide_eq_true_iff] at h
    exact ofL_quad h.1 (by omega)
  · rfl
set_option maxRecDepth 100000 in
set_option maxHeartbeats 3200000 in
theorem canonof_great (A : Option Addr) (c n : Nat) (k : Int) (w : World) (h : 60 < n) (hn : n ≤ 9223372036854775807) :
    Calls Try.prog 3 #[.slice A n c, .int .i64 k] w fun e w' => e = .returned (.bool true) ∧ Below w.heap.size w w' := by
  go_enter Try.func3, Try.ntmps3
  go_wp2_with (go_at_call 5; refine (alive6_any _).mono ?_; rintro e w1 ⟨rfl, b1⟩; have B1 := Lib.hid b1; clear b1)
  go_ret
  exact ⟨rfl, B1.out⟩
set_option maxRecDepth 100000 in
set_option maxHeartbeats 6400000 in
theorem canonof_main (A : Option Addr) (c n : Nat) (k : Int) (l : List Nd) (w : World) (h : Ns w A c l) (hn : l.length = n) (hn6 : n ≤ 60) (hA : A = none → c = 0) :
    Calls Try.prog 3 #[.slice A n c, .int .i64 k] w fun e w' => e = .returned (.bool true) ∧ Below w.heap.size w w' := by
  have HS := Lib.hid ((Al.start w).addN h)
  have HN := Lib.hid hn
  have HA := Lib.hid hA
  obtain ⟨q, hq⟩ : ∃ q, q = ofQ l k := ⟨_, rfl⟩
  obtain ⟨qn, hqn⟩ : ∃ qn, qn = q.length := ⟨_, rfl⟩
  obtain ⟨er, her⟩ : ∃ er, er = ofE l k := ⟨_, rfl⟩
  have hql : qn ≤ 1388 := by rw [hqn, hq]; have := ofQ_len l k; omega
  have HQ := Lib.hid hq
  have HQN := Lib.hid hqn
  have HER := Lib.hid her
  have HQB := Lib.hid (show quadB q = true by rw [hq]; exact ofQ_quad l k)
  have q0 : True := trivial
  clear h hn hA hq hqn her
  go_enter Try.func3, Try.ntmps3
  go_wp2_with (first
    | (have _t := q0; go_at_call 5; clear _t; go_loud (refine (alive6_any _).mono ?_; rintro e w1 ⟨rfl, b1⟩; have HS := Lib.hid (HS.out.step b1); clear b1; have q1 := q0; clear q0))
    | (have _t := q1; at_builtin; clear _t; go_loud (refine wpList_append_nodes _ rfl _ _ rfl w1.heap.size _ [] l A n c rfl rfl (OwnN.start _) ((HS.out.alloc _).getN (by simp)) HN.out HA.out (by simp; omega) (by simp) ?_; intro v2 w2 ho2 hg2 hk2; rw [List.nil_append] at ho2; obtain ⟨A2, c2, hv2, hn2, hA2, hB2⟩ := ho2.shape; rw [HN.out] at hv2; subst hv2; have HA2 := Lib.hid hA2; have HS := Lib.hid ((HS.out.step (((Below.refl _ w1).alloc (Nat.le_refl _) _).grown hg2 (by simp) (fun k hk => by cases hk; exact Nat.le_refl _))).addN hn2); clear ho2 hg2 hk2 hn2 hA2 hB2; have q2 := q1; clear q1))
    | (have _t := q2; go_at_call 6; clear _t; go_loud (refine (pof_at A2 c2 n l k q qn er _ (HS.out.getN (A := A2) (c := c2) (by simp)) HN.out (by omega) HA2.out HQ.out.symm HQN.out.symm HER.out.symm).mono ?_; rintro e w3 ⟨A3, c3, rfl, n3, -, b3⟩; have HS := Lib.hid (((HS.out.step b3).addN n3).addB (.slice A3 qn c3)); clear n3 b3; have q3 := q2; clear q2))
    | (have _t := q3; go_at_call 7; clear _t; go_loud (refine (rof_at A c n l k q qn er _ (HS.out.getN (A := A) (c := c) (l := l) (by simp)) HN.out (by omega) HA.out HQ.out.symm HQN.out.symm HER.out.symm).mono ?_; rintro e w4 ⟨A4, c4, rfl, n4, -, b4⟩; have HS := Lib.hid (((HS.out.step b4).addN n4).addB (.slice A4 qn c4)); clear n4 b4; have k6 := HS.out.getB (g := w3.heap.size) (v := .slice A3 qn c3) (by simp); have q4 := q3; clear q3))
    | (have _t := q4; go_at_call 8; clear _t; go_loud (refine (rsame_any A3 A4 c3 c4 qn qn q q _ (HS.out.getN (A := A3) (c := c3) (l := q) (by simp)) (HS.out.getN (A := A4) (c := c4) (l := q) (by simp)) HQN.out.symm HQN.out.symm).mono ?_; rintro e w5 ⟨rfl, b5⟩; rw [decide_eq_true (rfl : q = q)]; have HS := Lib.hid (HS.out.step b5); clear b5; have q5 := q4; clear q4))
    | (have _t := q5; go_at_call 9; clear _t; go_loud (refine (rnodes_b A2 A c2 c n n l l _ (HS.out.getN (A := A2) (c := c2) (l := l) (by simp)) (HS.out.getN (A := A) (c := c) (l := l) (by simp)) HN.out HN.out).mono ?_; rintro e w6 ⟨rfl, b6⟩; rw [decide_eq_true (rfl : l = l)]; have HS := Lib.hid (HS.out.step b6); clear b6; have k7 := HS.out.getB (g := w3.heap.size) (v := .slice A3 qn c3) (by simp); have q6 := q5; clear q5))
    | (have _t := q6; go_at_call 10; clear _t; go_loud (refine (rright_any A3 c3 qn q _ (HS.out.getN (A := A3) (c := c3) (l := q) (by simp)) HQN.out.symm (by omega)).mono ?_; rintro e w7 ⟨rfl, b7⟩; rw [HQB.out]; have HS := Lib.hid (HS.out.step b7); clear b7; have q7 := q6; clear q6)))
  go_ret
  exact ⟨rfl, HS.out.sn.1⟩
theorem canonof_any (A : Option Addr) (c : Nat) (k : Int) (l : List Nd) (w : World) (h : Ns w A c l) (hA : A = none → c = 0) :
    Calls Try.prog 3 #[.slice A l.length c, .int .i64 k] w fun e w' => e = .returned (.bool true) ∧ Below w.heap.size w w' := by
  have h1 := h.cap
  by_cases h2 : 60 < l.length
  · exact canonof_great A c _ k w h2 (by omega)
  · exact canonof_main A c _ k l w h rfl (by omega) hA
end Go.Proofs.Ytbcolelgbbmjkaa
