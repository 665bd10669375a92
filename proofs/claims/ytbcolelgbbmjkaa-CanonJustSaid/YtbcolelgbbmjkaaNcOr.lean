/-
  canon: ordered.
-/
import Derived.Test.YtbcolelgbbmjkaaNcVi
import Derived.Test.YtbcolelgbbmjkaaNcPS
import Derived.Laws.EntriesVeiled

namespace Go.Proofs.Ytbcolelgbbmjkaa
set_option linter.unusedVariables false
set_option linter.unusedSimpArgs false
open Go.RowKit Nds
theorem mm_first (l : List Nd) (w : World) (b : Nat) (hb : w.heap[b]? = some (.map #[] 0)) :
    ∃ w', (Instr.mapUpdate 55 (.map (some b)) (.int .i64 0) (.int .i64 0)).run Try.prog w = .ok () w' ∧ MM l w' b [] ∧ w.grownBy w' (some b) ∧ w'.heap.size = w.heap.size := by
  obtain ⟨kl, hkey⟩ := key_i (0 : Int) in64_0
  rcases Try.intLaw.find w hkey (#[] : Array MapEntry).toList (by simp) with ⟨f1, f2⟩ | ⟨j, e0, f1, f2, f3⟩
  · refine ⟨ChangeMaps.setBlock w b (.map ((#[] : Array MapEntry).push ⟨.int .i64 0, .int .i64 0, 0⟩) (0 + 1)), ?_, ⟨_, _, ChangeMaps.heap_setBlock_same hb _, ?_, ?_⟩, ⟨rfl, rfl, rfl, by simp [ChangeMaps.setBlock], fun i _ hi => ChangeMaps.heap_setBlock_other hb _ (fun e => hi (by rw [e]))⟩, by simp [ChangeMaps.setBlock]⟩
    · simp [Instr.mapUpdate, run_underlying Try.underlying55, MapKept.run_getObj_map hb, Try.intLaw.check w false hkey, f1, MapKept.run_setObj_map _ hb, Result.andThen, ChangeMaps.setBlock]
    · intro e he
      simp at he
      subst he
      exact ⟨0, 0, Nat.zero_le _, rfl, rfl, by rw [den_zero]; rfl⟩
    · exact ⟨_, by simp; rfl, rfl⟩
  · simp at f2
theorem push_at {α : Type} (a : Array α) (x : α) (k : Nat) (h : k = a.size) : (a.push x)[k]? = some x := by
  subst h
  simp
theorem env_start (w : World) (A : Option Addr) (c n : Nat) (W6 W7 : World) (h6 : W6 = ((((((w.alloc (.cells #[.slice A n c] 22)).alloc (.cells #[.slice none 0 0] 22)).alloc (.map #[] 0)).alloc (.cells #[.map (some (w.heap.size + 1 + 1))] 53)).alloc (.cells #[addF (w.heap.size + 1 + 1 + 1) (w.heap.size + 1)] 54)).alloc (.map #[] 0))) (g7 : W6.grownBy W7 (some (w.heap.size + 1 + 1 + 1 + 1 + 1))) (hs : W7.heap.size = W6.heap.size) :
    W6.heap[w.heap.size + 1 + 1 + 1 + 1 + 1]? = some (.map #[] 0) ∧ W6.heap.size = w.heap.size + 6 ∧
    Env ((W7.alloc (.cells #[.map (some (w.heap.size + 1 + 1 + 1 + 1 + 1))] 55)).alloc (.cells #[visF W7.heap.size w.heap.size (W7.heap.size + 1) (w.heap.size + 1 + 1 + 1 + 1)] 56)) A c n w.heap.size (w.heap.size + 1) (w.heap.size + 1 + 1) (w.heap.size + 1 + 1 + 1) (w.heap.size + 1 + 1 + 1 + 1) (w.heap.size + 1 + 1 + 1 + 1 + 1) W7.heap.size (W7.heap.size + 1) ∧
    ((W7.alloc (.cells #[.map (some (w.heap.size + 1 + 1 + 1 + 1 + 1))] 55)).alloc (.cells #[visF W7.heap.size w.heap.size (W7.heap.size + 1) (w.heap.size + 1 + 1 + 1 + 1)] 56)).heap[w.heap.size + 1]? = some (.cells #[.slice none 0 0] 22) ∧
    KM ((W7.alloc (.cells #[.map (some (w.heap.size + 1 + 1 + 1 + 1 + 1))] 55)).alloc (.cells #[visF W7.heap.size w.heap.size (W7.heap.size + 1) (w.heap.size + 1 + 1 + 1 + 1)] 56)) (w.heap.size + 1 + 1) [] := by
  have hsz : W6.heap.size = w.heap.size + 6 := by rw [h6]; simp
  have l5 : W6.heap[w.heap.size + 1 + 1 + 1 + 1 + 1]? = some (.map #[] 0) := by
    rw [h6]
    exact push_at _ _ _ (by simp)
  have l4 : W6.heap[w.heap.size + 1 + 1 + 1 + 1]? = some (.cells #[addF (w.heap.size + 1 + 1 + 1) (w.heap.size + 1)] 54) := by
    rw [h6, Below.heap_alloc _ _ _ (by simp)]
    exact push_at _ _ _ (by simp)
  have l3 : W6.heap[w.heap.size + 1 + 1 + 1]? = some (.cells #[.map (some (w.heap.size + 1 + 1))] 53) := by
    rw [h6, Below.heap_alloc _ _ _ (by simp <;> omega), Below.heap_alloc _ _ _ (by simp)]
    exact push_at _ _ _ (by simp)
  have l2 : W6.heap[w.heap.size + 1 + 1]? = some (.map #[] 0) := by
    rw [h6, Below.heap_alloc _ _ _ (by simp <;> omega), Below.heap_alloc _ _ _ (by simp <;> omega), Below.heap_alloc _ _ _ (by simp)]
    exact push_at _ _ _ (by simp)
  have l1 : W6.heap[w.heap.size + 1]? = some (.cells #[.slice none 0 0] 22) := by
    rw [h6, Below.heap_alloc _ _ _ (by simp <;> omega), Below.heap_alloc _ _ _ (by simp <;> omega), Below.heap_alloc _ _ _ (by simp <;> omega), Below.heap_alloc _ _ _ (by simp)]
    exact push_at _ _ _ (by simp)
  have l0 : W6.heap[w.heap.size]? = some (.cells #[.slice A n c] 22) := by
    rw [h6, Below.heap_alloc _ _ _ (by simp <;> omega), Below.heap_alloc _ _ _ (by simp <;> omega), Below.heap_alloc _ _ _ (by simp <;> omega), Below.heap_alloc _ _ _ (by simp <;> omega), Below.heap_alloc _ _ _ (by simp)]
    exact push_at _ _ _ rfl
  have key : ∀ (o o2 : Obj) k, k < w.heap.size + 1 + 1 + 1 + 1 + 1 → ((W7.alloc o).alloc o2).heap[k]? = W6.heap[k]? := fun o o2 k hk => by
    rw [Below.heap_alloc _ _ _ (by simp; omega), Below.heap_alloc _ _ _ (by omega), g7.block k (by omega) (fun e => by have := Option.some.inj e; omega)]
  refine ⟨l5, hsz, ⟨(key _ _ _ (by omega)).trans l0, (key _ _ _ (by omega)).trans l3, (key _ _ _ (by omega)).trans l4, ?_, ?_⟩, (key _ _ _ (by omega)).trans l1, ⟨#[], 0, (key _ _ _ (by omega)).trans l2, by simp, fun i hi => absurd hi (Nat.not_lt_zero i)⟩⟩
  · rw [Below.heap_alloc _ _ _ (by simp)]
    exact push_at _ _ _ rfl
  · exact push_at _ _ _ (by simp)
set_option maxRecDepth 100000 in
set_option maxHeartbeats 3200000 in
theorem ordered_any (A : Option Addr) (c n j : Nat) (l : List Nd) (w : World) (h : Ns w A c l) (hn : l.length = n) (hn9 : n ≤ 990000) (hl : looseB l = true) (hj : j ≤ n) (hA : ∀ a, A = some a → a.block < w.heap.size) :
    Calls Try.prog 16 #[.slice A n c, .int .i64 (j : Int)] w fun e w' => ∃ v, e = .returned v ∧ OwnN w' w.heap.size v (enc (den l j) []).1 ∧ Below w.heap.size w w' := by
  have hcap := h.cap
  rw [hn] at hcap
  have HN := Lib.hid h
  have HL := Lib.hid hn
  have HLL := Lib.hid hl
  have HA := Lib.hid hA
  clear h hn hl hA
  have hmf : ∀ (fn : Fn) (first cap : Array Value) (w : World), (Instr.makeFunc fn first cap).run Try.prog w = .ok (.func fn first cap) w := fun _ _ _ _ => rfl
  have hmm := @run_makeMap Try.prog
  obtain ⟨W6, h6⟩ : ∃ W6 : World, W6 = ((((((w.alloc (.cells #[.slice A n c] 22)).alloc (.cells #[.slice none 0 0] 22)).alloc (.map #[] 0)).alloc (.cells #[.map (some (w.heap.size + 1 + 1))] 53)).alloc (.cells #[addF (w.heap.size + 1 + 1 + 1) (w.heap.size + 1)] 54)).alloc (.map #[] 0)) := ⟨_, rfl⟩
  have hm6 : W6.heap[w.heap.size + 1 + 1 + 1 + 1 + 1]? = some (.map #[] 0) := by
    rw [h6]
    exact push_at _ _ _ (by simp)
  obtain ⟨W7, hrun, m7, g7, s7⟩ := mm_first l W6 _ hm6
  obtain ⟨_, hs6, e7, c7, k7⟩ := env_start w A c n W6 W7 h6 g7 s7
  have H6 := Lib.hid h6
  have M7 := Lib.hid m7
  have G7 := Lib.hid g7
  have S7 := Lib.hid (s7.trans hs6)
  have E7 := Lib.hid e7
  have C7 := Lib.hid c7
  have K7 := Lib.hid k7
  have B6 := Lib.hid (show Below w.heap.size w W6 by rw [h6]; exact ((((((Below.refl w.heap.size w).alloc (Nat.le_refl _) _).alloc (by simp) _).alloc (by simp; omega) _).alloc (by simp; omega) _).alloc (by simp; omega) _).alloc (by simp; omega) _)
  rw [h6] at hrun
  have hrun2 : (Instr.mapUpdate 55 (.map (some (w.heap.size + 1 + 1 + 1 + 1 + 1))) (.int .i64 0) (.int .i64 0)).run Try.prog ((((((w.alloc (.cells #[.slice A n c] 22)).alloc (.cells #[.slice none 0 0] 22)).alloc (.map #[] 0)).alloc (.cells #[.map (some (w.heap.size + 1 + 1))] 53)).alloc (.cells #[.func (.func 27) #[] #[.pointer (some ⟨w.heap.size + 1 + 1 + 1, 0, none⟩), .pointer (some ⟨w.heap.size + 1, 0, none⟩)]] 54)).alloc (.map #[] 0)) = .ok () W7 := hrun
  clear hm6 m7 g7 s7 e7 c7 k7 hrun h6 hs6
  have q0 : True := trivial
  go_enter Try.func16, Try.ntmps16
  have hch := Lib.hid (show Chn A w.heap.size (w.heap.size + 1) (w.heap.size + 1 + 1) (w.heap.size + 1 + 1 + 1) (w.heap.size + 1 + 1 + 1 + 1) (w.heap.size + 1 + 1 + 1 + 1 + 1) W7.heap.size (W7.heap.size + 1) (W7.heap.size + 2) from ⟨HA.out, by have := S7.out; omega⟩)
  have hb9 : Below w.heap.size w ((W7.alloc (.cells #[.map (some (w.heap.size + 1 + 1 + 1 + 1 + 1))] 55)).alloc (.cells #[visF W7.heap.size w.heap.size (W7.heap.size + 1) (w.heap.size + 1 + 1 + 1 + 1)] 56)) :=
    (((B6.out.grown G7.out B6.out.size (fun k hk => by have h1 := Option.some.inj hk; omega)).alloc (by have := S7.out; omega) _).alloc (by have := S7.out; simp; omega) _)
  have HB9 := Lib.hid hb9
  have HN9 := Lib.hid (HN.out.below hb9)
  have hs9 : ((W7.alloc (.cells #[.map (some (w.heap.size + 1 + 1 + 1 + 1 + 1))] 55)).alloc (.cells #[visF W7.heap.size w.heap.size (W7.heap.size + 1) (w.heap.size + 1 + 1 + 1 + 1)] 56)).heap.size = W7.heap.size + 2 := by simp
  have HS9 := Lib.hid hs9
  have hst9 : Sta l ((W7.alloc (.cells #[.map (some (w.heap.size + 1 + 1 + 1 + 1 + 1))] 55)).alloc (.cells #[visF W7.heap.size w.heap.size (W7.heap.size + 1) (w.heap.size + 1 + 1 + 1 + 1)] 56)) (w.heap.size + 1) (w.heap.size + 1 + 1) (w.heap.size + 1 + 1 + 1 + 1 + 1) (W7.heap.size + 2) (.slice none 0 0) [] :=
    ⟨C7.out, ownN_none _ _, K7.out, M7.out.stay (by rw [Below.heap_alloc _ _ _ (by have := S7.out; simp; omega), Below.heap_alloc _ _ _ (by have := S7.out; omega)])⟩
  have HST9 := Lib.hid hst9
  clear hb9 hs9 hst9
  go_wp2_with (go_at_call 28; go_loud (refine (visit_rec A c n w.heap.size (w.heap.size + 1) (w.heap.size + 1 + 1) (w.heap.size + 1 + 1 + 1) (w.heap.size + 1 + 1 + 1 + 1) (w.heap.size + 1 + 1 + 1 + 1 + 1) W7.heap.size (W7.heap.size + 1) (W7.heap.size + 2) l HLL.out HL.out hn9 hch.out 1329 j [] (.slice none 0 0) _ hj (fun h0 => (fit_lv (loose_fit HLL.out (by rw [HL.out]; omega))).2) (inv_nil l) E7.out HN9.out HST9.out (Nat.le_of_eq HS9.out.symm)).mono ?_; rintro e w1 ⟨v', rfl, r1, r2, r3⟩; have R1 := Lib.hid r1; have R3 := Lib.hid r3; have cS := box_cell r1.s; clear r1 r2 r3))
  go_ret
  refine ⟨v', rfl, R1.out.o.mono (by have := S7.out; omega), ?_⟩
  refine HB9.out.trans (R3.out.to (by rw [HS9.out]; have := S7.out; omega) (fun k hk => ?_))
  rcases hk with h | h | h | h
  · omega
  · omega
  · omega
  · simp [Value.ownBlock] at h
end Go.Proofs.Ytbcolelgbbmjkaa
