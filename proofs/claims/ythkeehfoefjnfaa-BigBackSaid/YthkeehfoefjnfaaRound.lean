/-
  Within a round of a range over a function: a region whose last operations are forced, of which the others read, or call what is quiet.
-/
import Derived.Test.YthkeehfoefjnfaaBack
import Derived.StillTailTactics
import Derived.Deep.RegionHeld
namespace Go.Proofs.Ythkeehfoefjnfaa
set_option linter.unusedVariables false
set_option linter.unusedSimpArgs false
open Go.RowKit

theorem upon_in {P : Program} {o : Oper} {a : Act} {l n : Nat} {next next' : Act → World → Prop} {Q : Exit → Act → World → Prop} (hn : ∀ a w, next a w → next' a w) {r : Result Next} (h : o.upon P a next Q r) :
    o.uponIn (Fence.wide.inRound l) n P a next' Q r := by
  cases r with
  | ok x w' =>
    cases x with
    | value v => exact hn _ _ h
    | skip => exact hn _ _ h
    | defer d => exact hn _ _ h
    | enter f args =>
      refine ⟨(fun hd => by cases hd), CallsIn.inRound l (callsIn_wide.2 (Calls.mono h ?_))⟩
      intro e w'' he
      cases e with
      | returned v => exact hn _ _ he
      | panicked chain => exact he
      | outgrown => exact he
    | row row args =>
      refine ⟨(fun hd => by cases hd), ?_⟩
      intro c cs _
      obtain ⟨v, w'', r, s⟩ := (show Rows P row args w' _ from h) c cs
      exact ⟨v, w'', hn _ _ r, stepsIn_wide.2 s⟩
    | _ => exact False.elim h
  | halt x w' => cases x <;> exact h

/-- A statement ends as a statement does, or not at all. -/
def NormalIn (Q : Exit → Act → World → Prop) : Exit → Act → World → Prop
  | .normal, a, w => Q .normal a w
  | _, _, _ => False
theorem wpIn_normalIn {F : Fence} {n : Nat} {P : Program} {c : Code} {a : Act} {w : World} {Q : Exit → Act → World → Prop} (h : c.wpIn F n P (NormalIn Q) a w) : c.wpIn F n P Q a w :=
  wpIn_mono h fun e _ _ hq => by cases e <;> first | exact hq | exact False.elim hq

theorem ops_in {P : Program} {ops : Array Oper} {l n : Nat} {Q : Exit → Act → World → Prop} (hQ : ¬ LetsOut Q) (hnd : ∀ (i : Nat) (o : Oper), ops[i]? = some o → ∀ c, o.op ≠ .defer c) :
    ∀ (is : List Nat) (a : Act) (w : World), wpOps P ops Q is a w → wpOpsIn (Fence.wide.inRound l) n P ops Q is a w
  | [], _, _, h => h
  | i :: is, a, w, h => by
    simp only [wpOps] at h
    simp only [wpOpsIn]
    cases ho : ops[i]? with
    | none =>
      rw [ho] at h
      exact ops_in hQ hnd is a w h
    | some o =>
      rw [ho] at h
      dsimp only at h ⊢
      by_cases hw : Region.wanted o (yielded ops a.tmps) = true
      · rw [if_pos hw] at h ⊢
        rcases h with h | h
        · refine ⟨fun _ _ => trivial, ?_⟩
          rw [show (Fence.wide.inRound l).round = some l from rfl, Oper.semAt_some l _ o (hnd i o ho)]
          exact upon_in (ops_in hQ hnd is) h
        · exact absurd h.2 hQ
      · rw [if_neg hw] at h ⊢
        exact ⟨fun _ _ => trivial, ops_in hQ hnd is _ _ h⟩

theorem round_any {P : Program} {ops : Array Oper} {id l n : Nat} {Q : Exit → Act → World → Prop} {a : Act} {w : World} (hm : P.follows .mixedOrders = true) (hQ : ¬ LetsOut Q) (hnd : ∀ (i : Nat) (o : Oper), ops[i]? = some o → ∀ c, o.op ≠ .defer c)
    (h : wpAny P .any ops Q ops.size (Array.replicate ops.size false) a { w with drawn := w.drawn + 1 }) : (Code.region id ops true).wpIn (Fence.wide.inRound l) n P Q a w :=
  wpIn_region_draw fun t => ops_in hQ hnd _ _ _ (by
    simp only [Region.schedule, hm, Bool.true_or, if_true]
    exact wpAny_sound ops.size t _ a _ h)

/-- No 'defer' statement. -/
def noDefer : Op → Bool
  | .defer _ => false
  | _ => true
theorem noDefer_all {os : List Oper} (h : (os.all fun o => noDefer o.op) = true) : ∀ o ∈ os, ∀ c, o.op ≠ .defer c := fun o ho c e => by
  have := List.all_eq_true.1 h o ho
  rw [e] at this
  cases this
/-- The first k operations only read, or call what is quiet; the others come in the order in which they stand. -/
theorem round_tail {P : Program} {os : List Oper} {id l n : Nat} {Q : Exit → Act → World → Prop} {a : Act} {w : World} (k : Nat) (hm : P.follows .mixedOrders = true) (hnd' : (os.all fun o => noDefer o.op) = true) (hB : Region.lexTailB .any os.toArray k = true)
    (h : wpStill P os.toArray { w with drawn := w.drawn + 1 } (fun a' => wpList P os.toArray (NormalIn Q) (os.drop k) a' { w with drawn := w.drawn + 1 }) (os.take k) a) : (Code.region id os.toArray true).wpIn (Fence.wide.inRound l) n P Q a w := by
  have hnd := noDefer_all hnd'
  refine wpIn_normalIn (round_any hm (fun ⟨_, _, h⟩ => h) (fun i o ho => hnd o ?_) ?_)
  · rw [List.getElem?_toArray] at ho
    exact List.mem_of_getElem? ho
  · simp only [Region.lexTailB, Bool.and_eq_true, decide_eq_true_eq] at hB
    obtain ⟨⟨⟨⟨b1, b2⟩, b3⟩, b4⟩, b5⟩ := hB
    have c1 : k < os.length := by simpa using b2
    have c2 : (os.take k).length = k := by rw [List.length_take]; omega
    have c3 : (os.drop k).length = os.toArray.size - k := by simp
    have i0 : HeadInv .any os.toArray k (Array.replicate os.toArray.size false) := by
      refine ⟨by simp, ?_, fun t _ ht => getD_in (by simpa using ht) (getD_replicate_false _ _)⟩
      intro j oj _ hl
      rw [getD_replicate_false] at hl
      cases hl
    have H := wpAnyL_lex (md := .any) (g := os.toArray.size - k) b1 b3 b4 b2 (os.take k) 0 _ a (fun j hj => by
      have : j < k := by rw [c2] at hj; exact hj
      simp [this]) (by simpa using c2) i0 (by rw [c2]; exact b5) h
    have H2 := wpAny_of_head (Q' := NormalIn Q) (g := os.toArray.size - k) (fun listed a' hL => by
      have := wpAny_of_seq (md := .any) (Q' := NormalIn Q) (os.drop k) k listed a' { w with drawn := w.drawn + 1 } (fun j => by simp [List.getElem?_drop]) (by rw [c3]; exact hL.1) hL.2
      rwa [c3] at this) _ _ _ H
    rwa [c2, show k + (os.toArray.size - k) = os.toArray.size from by omega] at H2

/-- A condition S on the world that each operation keeps: what reads under it may be taken first. -/
theorem round_held {P : Program} {os : List Oper} {id l n : Nat} {Q : Exit → Act → World → Prop} {a : Act} {w : World} (S : World → Prop) (hm : P.follows .mixedOrders = true) (hnd : (os.all fun o => noDefer o.op) = true)
    (h : wpAnyH P .any os.toArray (NormalIn Q) S os.toArray.size (Array.replicate os.toArray.size false) a w.drew) : (Code.region id os.toArray true).wpIn (Fence.wide.inRound l) n P Q a w :=
  wpIn_normalIn (round_any hm (fun ⟨_, _, h⟩ => h) (fun i o ho => noDefer_all hnd o (by rw [List.getElem?_toArray] at ho; exact List.mem_of_getElem? ho)) (wpAny_of_held _ _ _ _ h))

end Go.Proofs.Ythkeehfoefjnfaa
