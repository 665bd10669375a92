/-
  math/bits.Len32: how many bits.
-/
import Derived.Test.YthkeehfoefjnfaaNum
import Derived.Test.YthkeehfoefjnfaaRows
import Derived.Lib.Strings
import Derived.Lib.Slices
import Derived.Lib.Small
import Derived.Lib.Walk
import Derived.Lib.BitFns
namespace Go.Proofs.Ythkeehfoefjnfaa
set_option linter.unusedVariables false
set_option linter.unusedSimpArgs false
open Num

theorem blen_byte : ∀ n : Fin 256, blen n.val = Lib.bitLen n.val := by decide +kernel
theorem blen_le8 : ∀ n : Fin 256, blen n.val ≤ 8 := by decide +kernel
theorem len8_blen (b : Int) (h0 : 0 ≤ b) (h1 : b ≤ 255) : Lib.len8 b = (blen b.toNat : Int) := by
  rw [Lib.len8_of b h0 h1, ← blen_byte ⟨b.toNat, by omega⟩]
set_option maxHeartbeats 1000000 in
set_option maxRecDepth 100000 in
theorem len32_int (x : Int) (w : World) (h0 : 0 ≤ x) (h1 : x ≤ 4294967295) :
    Calls Try.prog 69 #[.int .u32 x] w fun e w' => e = .returned (.int .i64 (blen x.toNat : Nat)) ∧ w = w' := by
  go_enter Try.func69, Try.ntmps69
  go_wp2
  all_goals (go_ret; refine ⟨congrArg Ending.returned (congrArg (Value.int IntKind.i64) ?_), rfl⟩)
  all_goals first
    | (rw [len8_blen (x / 65536 / 256 % 256) (by omega) (by omega)]
       have e : (x / 65536 / 256 % 256).toNat = x.toNat / 2 ^ 24 := by omega
       have l := blen_le8 ⟨x.toNat / 2 ^ 24, by omega⟩
       have s := blen_div (x := x.toNat) (k := 24) (by omega)
       rw [e]
       simp only at l
       omega)
    | (rw [len8_blen (x / 65536 % 256) (by omega) (by omega)]
       have e : (x / 65536 % 256).toNat = x.toNat / 2 ^ 16 := by omega
       have l := blen_le8 ⟨x.toNat / 2 ^ 16, by omega⟩
       have s := blen_div (x := x.toNat) (k := 16) (by omega)
       rw [e]
       simp only at l
       omega)
    | (rw [len8_blen (x / 256 % 256) (by omega) (by omega)]
       have e : (x / 256 % 256).toNat = x.toNat / 2 ^ 8 := by omega
       have l := blen_le8 ⟨x.toNat / 2 ^ 8, by omega⟩
       have s := blen_div (x := x.toNat) (k := 8) (by omega)
       rw [e]
       simp only at l
       omega)
    | (rw [len8_blen (x % 256) (by omega) (by omega)]
       have e : (x % 256).toNat = x.toNat := by omega
       have l := blen_le8 ⟨x.toNat, by omega⟩
       rw [e]
       simp only at l
       omega)
theorem len32_any (x : Nat) (w : World) (hx : x < 4294967296) :
    Calls Try.prog 69 #[.int .u32 x] w fun e w' => e = .returned (.int .i64 (blen x : Nat)) ∧ w = w' :=
  len32_int x w (by omega) (by omega)

end Go.Proofs.Ythkeehfoefjnfaa
