/-
  No cell of these rows narrows 'for every input' (looked for: loops, veiled, ifaces, maps, wideKeys, modest, calm, conditions, laid).
  DERIVED. THE GIVEN ROWS OF THIS SEAT. 3 by the template 'for every input the law returns true; each argument reads behind the call as it read before'; 0 by the template 'total and deterministic' (their statements: YtikehjindobpkaaGreatTotals.lean).
  GIVEN WITH THE SEED: the statements are not yours to turn. If you find one false, say at which input.
  Laid BY PROGRAM, IN A SANDBOX (cutbox-rows.mjs): the forced cells as the released guide's own fill.sh prints them over the translation 32b1420fe768cded… (all of the seat's roots in one cut). By AI agents, Wed Nov 11 2026. No macro, syntax, notation, axiom, sorry.
-/
import Derived.Test.YtikehjindobpkaaGreatChecked
import GoSem.Claim
import GoSem.ClaimJoined
import GoSem.ClaimMapViews
import Derived.JoinedTies
import Derived.KernelRfl
namespace Go.Proofs.YtikehjindobpkaaGreat
/- THE CELL 'sum', in the pinned program and in every row, IS THE sha256 OF THE DUMP (.gsa) THAT YtikehjindobpkaaGreatProg.lean LOADS. Nothing in Lean hashes anything: it is a label: what it is worth is what the hold of that sum in a sandbox is worth. -/
noncomputable def Tryz.pinned : Pinned := { name := "ytikehjindobpkaagreat", sum := "32b1420fe768cded9482eda4ceb5e40ed14d722d91ed47d0b080a94f5e6d9517", checked := Tryz.checked }
namespace Rows
def none {H : Type} : Left H := { results := [], args := [] }

/-- 'gliderlaw10.GridOf': WHATEVER THE INPUT: true; the input reads as it did. -/
def gridOfSpec : ChangeSpec := { name := "gridOf", fn := fun _ => fun
  | [d1, d2] => { results := [.lit (.bool true)], args := [d1, d2] }
  | _ => none }
def gridOfRow : OpenClaim := { program := "ytikehjindobpkaagreat", sum := "32b1420fe768cded9482eda4ceb5e40ed14d722d91ed47d0b080a94f5e6d9517", func := "glider/gliderlaw10.GridOf", spec := "gridOf", inPlace := ["internal/bytealg.CountString", "internal/bytealg.IndexByteString", "internal/bytealg.IndexString"], unfollowed := true, recurses := true, named := ["internal/bytealg.MaxLen"], plainKeys := false, apart := false }
def GridOfSaid : Prop := gridOfRow.holds Tryz.pinned (OpenSpec.ofChange gridOfSpec)

/-- ITS FALSE NEIGHBOUR: 'it returns false'. Refute it at one input. -/
def gridOfWrong : ChangeSpec := { name := "gridOf", fn := fun _ => fun
  | [d1, d2] => { results := [.lit (.bool false)], args := [d1, d2] }
  | _ => none }
def GridOfWrongFalsely : Prop := gridOfRow.holds Tryz.pinned (OpenSpec.ofChange gridOfWrong)

/-- 'gliderlaw10.GridQuads': WHATEVER THE INPUT: true; the input reads as it did. -/
def gridQuadsSpec : ChangeSpec := { name := "gridQuads", fn := fun _ => fun
  | [d1, d2] => { results := [.lit (.bool true)], args := [d1, d2] }
  | _ => none }
def gridQuadsRow : OpenClaim := { program := "ytikehjindobpkaagreat", sum := "32b1420fe768cded9482eda4ceb5e40ed14d722d91ed47d0b080a94f5e6d9517", func := "glider/gliderlaw10.GridQuads", spec := "gridQuads", inPlace := ["internal/bytealg.CountString", "internal/bytealg.IndexByteString", "internal/bytealg.IndexString"], unfollowed := true, recurses := true, named := ["internal/bytealg.MaxLen"], plainKeys := false, apart := false }
def GridQuadsSaid : Prop := gridQuadsRow.holds Tryz.pinned (OpenSpec.ofChange gridQuadsSpec)

/-- ITS FALSE NEIGHBOUR: 'it returns false'. Refute it at one input. -/
def gridQuadsWrong : ChangeSpec := { name := "gridQuads", fn := fun _ => fun
  | [d1, d2] => { results := [.lit (.bool false)], args := [d1, d2] }
  | _ => none }
def GridQuadsWrongFalsely : Prop := gridQuadsRow.holds Tryz.pinned (OpenSpec.ofChange gridQuadsWrong)

/-- 'gliderlaw10.GridCells': WHATEVER THE INPUT: true; the input reads as it did. -/
def gridCellsSpec : ChangeSpec := { name := "gridCells", fn := fun _ => fun
  | [d] => { results := [.lit (.bool true)], args := [d] }
  | _ => none }
def gridCellsRow : OpenClaim := { program := "ytikehjindobpkaagreat", sum := "32b1420fe768cded9482eda4ceb5e40ed14d722d91ed47d0b080a94f5e6d9517", func := "glider/gliderlaw10.GridCells", spec := "gridCells", inPlace := ["internal/bytealg.CountString", "internal/bytealg.IndexByteString", "internal/bytealg.IndexString"], unfollowed := true, recurses := true, named := ["internal/bytealg.MaxLen"], plainKeys := false, apart := false }
def GridCellsSaid : Prop := gridCellsRow.holds Tryz.pinned (OpenSpec.ofChange gridCellsSpec)

/-- ITS FALSE NEIGHBOUR: 'it returns false'. Refute it at one input. -/
def gridCellsWrong : ChangeSpec := { name := "gridCells", fn := fun _ => fun
  | [d] => { results := [.lit (.bool false)], args := [d] }
  | _ => none }
def GridCellsWrongFalsely : Prop := gridCellsRow.holds Tryz.pinned (OpenSpec.ofChange gridCellsWrong)

/- THE SECOND FORM. 'bulk': how many values and letters a reading holds, each counted each time it is reached (what is shared counts as often as it is met; a slice's spare places count too). A statement '..UptoSaid' is the law's where the arguments, and the package variables that the reading takes, are together of bulk at most 1048576: NARROWER than '..Said'. Prove '..Said' where nothing that the law and all that it calls make is longer than what came in: it says more and counts as full. Else prove '..UptoSaid'. A law counts once. -/
mutual
def uptoBulk {H : Type} : DataW H → Nat
  | .lit (.string bytes) => bytes.length + 1
  | .lit _ => 1
  | .nil => 1
  | .ptr d => uptoBulk d + 1
  | .slice elems spare => uptoBulkAll elems + uptoBulkAll spare + 1
  | .agg parts => uptoBulkAll parts + 1
  | .iface _ d => uptoBulk d + 1
  | .map entries => uptoBulkEntries entries + 1
  | .held _ => 1
def uptoBulkAll {H : Type} : List (DataW H) → Nat
  | [] => 0
  | d :: r => uptoBulk d + uptoBulkAll r
def uptoBulkEntries {H : Type} : List (Lit × DataW H) → Nat
  | [] => 0
  | x :: r => uptoBulkEntry x + uptoBulkEntries r
def uptoBulkEntry {H : Type} : Lit × DataW H → Nat
  | (.string bytes, d) => bytes.length + uptoBulk d + 1
  | (_, d) => uptoBulk d + 1
 end
def uptoSmall : (H : Type) → List (DataW H) → Bool := fun _ ds => decide (uptoBulkAll ds ≤ 1048576)
def OpenSpec.upto (s : _root_.Go.ChangeSpec) : _root_.Go.OpenSpec := { _root_.Go.OpenSpec.ofChange s with cond := some uptoSmall }

/-- 'gliderlaw10.GridOf', WHERE WHAT IT READS IS OF BULK AT MOST 1048576: true; the input reads as it did. -/
def gridOfUptoRow : OpenClaim := { program := "ytikehjindobpkaagreat", sum := "32b1420fe768cded9482eda4ceb5e40ed14d722d91ed47d0b080a94f5e6d9517", func := "glider/gliderlaw10.GridOf", spec := "gridOf", inPlace := ["internal/bytealg.CountString", "internal/bytealg.IndexByteString", "internal/bytealg.IndexString"], unfollowed := true, recurses := true, named := ["internal/bytealg.MaxLen"], plainKeys := false, apart := false, narrowed := true }
def GridOfUptoSaid : Prop := gridOfUptoRow.holds Tryz.pinned (OpenSpec.upto gridOfSpec)

/-- 'gliderlaw10.GridQuads', WHERE WHAT IT READS IS OF BULK AT MOST 1048576: true; the input reads as it did. -/
def gridQuadsUptoRow : OpenClaim := { program := "ytikehjindobpkaagreat", sum := "32b1420fe768cded9482eda4ceb5e40ed14d722d91ed47d0b080a94f5e6d9517", func := "glider/gliderlaw10.GridQuads", spec := "gridQuads", inPlace := ["internal/bytealg.CountString", "internal/bytealg.IndexByteString", "internal/bytealg.IndexString"], unfollowed := true, recurses := true, named := ["internal/bytealg.MaxLen"], plainKeys := false, apart := false, narrowed := true }
def GridQuadsUptoSaid : Prop := gridQuadsUptoRow.holds Tryz.pinned (OpenSpec.upto gridQuadsSpec)

/-- 'gliderlaw10.GridCells', WHERE WHAT IT READS IS OF BULK AT MOST 1048576: true; the input reads as it did. -/
def gridCellsUptoRow : OpenClaim := { program := "ytikehjindobpkaagreat", sum := "32b1420fe768cded9482eda4ceb5e40ed14d722d91ed47d0b080a94f5e6d9517", func := "glider/gliderlaw10.GridCells", spec := "gridCells", inPlace := ["internal/bytealg.CountString", "internal/bytealg.IndexByteString", "internal/bytealg.IndexString"], unfollowed := true, recurses := true, named := ["internal/bytealg.MaxLen"], plainKeys := false, apart := false, narrowed := true }
def GridCellsUptoSaid : Prop := gridCellsUptoRow.holds Tryz.pinned (OpenSpec.upto gridCellsSpec)

end Rows
end Go.Proofs.YtikehjindobpkaaGreat
