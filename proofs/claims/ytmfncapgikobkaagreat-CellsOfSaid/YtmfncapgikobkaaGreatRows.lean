/-
  No cell of these rows narrows 'for every input' (looked for: loops, veiled, ifaces, maps, wideKeys, modest, calm, conditions, laid).
  DERIVED. THE GIVEN ROWS OF THIS SEAT. 4 by the template 'for every input the law returns true; each argument reads behind the call as it read before'; 0 by the template 'total and deterministic' (their statements: YtmfncapgikobkaaGreatTotals.lean).
  GIVEN WITH THE SEED: the statements are not yours to turn. If you find one false, say at which input.
  Laid BY PROGRAM, IN A SANDBOX (cutbox-rows.mjs): the forced cells as the released guide's own fill.sh prints them over the translation dc33e107063a828d… (all of the seat's roots in one cut). By AI agents, Wed Nov 11 2026. No macro, syntax, notation, axiom, sorry.
-/
import Derived.Test.YtmfncapgikobkaaGreatChecked
import GoSem.Claim
import GoSem.ClaimJoined
import GoSem.ClaimMapViews
import Derived.JoinedTies
import Derived.KernelRfl
namespace Go.Proofs.YtmfncapgikobkaaGreat
/- THE CELL 'sum', in the pinned program and in every row, IS THE sha256 OF THE DUMP (.gsa) THAT YtmfncapgikobkaaGreatProg.lean LOADS. Nothing in Lean hashes anything: it is a label: what it is worth is what the hold of that sum in a sandbox is worth. -/
noncomputable def Tryz.pinned : Pinned := { name := "ytmfncapgikobkaagreat", sum := "dc33e107063a828d9c1efc488d8b4dede478823cc08224bff93a4fd9104c98c1", checked := Tryz.checked }
namespace Rows
def none {H : Type} : Left H := { results := [], args := [] }

/-- 'gliderlaw07.CellsOf': WHATEVER THE INPUT: true; the input reads as it did. -/
def cellsOfSpec : ChangeSpec := { name := "cellsOf", fn := fun _ => fun
  | [d] => { results := [.lit (.bool true)], args := [d] }
  | _ => none }
def cellsOfRow : OpenClaim := { program := "ytmfncapgikobkaagreat", sum := "dc33e107063a828d9c1efc488d8b4dede478823cc08224bff93a4fd9104c98c1", func := "glider/gliderlaw07.CellsOf", spec := "cellsOf", unfollowed := true, recurses := true, plainKeys := false, apart := false }
def CellsOfSaid : Prop := cellsOfRow.holds Tryz.pinned (OpenSpec.ofChange cellsOfSpec)

/-- ITS FALSE NEIGHBOUR: 'it returns false'. Refute it at one input. -/
def cellsOfWrong : ChangeSpec := { name := "cellsOf", fn := fun _ => fun
  | [d] => { results := [.lit (.bool false)], args := [d] }
  | _ => none }
def CellsOfWrongFalsely : Prop := cellsOfRow.holds Tryz.pinned (OpenSpec.ofChange cellsOfWrong)

/-- 'gliderlaw07.CellsList': WHATEVER THE INPUT: true; the input reads as it did. -/
def cellsListSpec : ChangeSpec := { name := "cellsList", fn := fun _ => fun
  | [d1, d2, d3] => { results := [.lit (.bool true)], args := [d1, d2, d3] }
  | _ => none }
def cellsListRow : OpenClaim := { program := "ytmfncapgikobkaagreat", sum := "dc33e107063a828d9c1efc488d8b4dede478823cc08224bff93a4fd9104c98c1", func := "glider/gliderlaw07.CellsList", spec := "cellsList", unfollowed := true, recurses := true, plainKeys := false, apart := false }
def CellsListSaid : Prop := cellsListRow.holds Tryz.pinned (OpenSpec.ofChange cellsListSpec)

/-- ITS FALSE NEIGHBOUR: 'it returns false'. Refute it at one input. -/
def cellsListWrong : ChangeSpec := { name := "cellsList", fn := fun _ => fun
  | [d1, d2, d3] => { results := [.lit (.bool false)], args := [d1, d2, d3] }
  | _ => none }
def CellsListWrongFalsely : Prop := cellsListRow.holds Tryz.pinned (OpenSpec.ofChange cellsListWrong)

/-- 'gliderlaw07.CellsBack': WHATEVER THE INPUT: true; the input reads as it did. -/
def cellsBackSpec : ChangeSpec := { name := "cellsBack", fn := fun _ => fun
  | [d1, d2] => { results := [.lit (.bool true)], args := [d1, d2] }
  | _ => none }
def cellsBackRow : OpenClaim := { program := "ytmfncapgikobkaagreat", sum := "dc33e107063a828d9c1efc488d8b4dede478823cc08224bff93a4fd9104c98c1", func := "glider/gliderlaw07.CellsBack", spec := "cellsBack", unfollowed := true, recurses := true, plainKeys := false, apart := false }
def CellsBackSaid : Prop := cellsBackRow.holds Tryz.pinned (OpenSpec.ofChange cellsBackSpec)

/-- ITS FALSE NEIGHBOUR: 'it returns false'. Refute it at one input. -/
def cellsBackWrong : ChangeSpec := { name := "cellsBack", fn := fun _ => fun
  | [d1, d2] => { results := [.lit (.bool false)], args := [d1, d2] }
  | _ => none }
def CellsBackWrongFalsely : Prop := cellsBackRow.holds Tryz.pinned (OpenSpec.ofChange cellsBackWrong)

/-- 'gliderlaw07.CellsMost': WHATEVER THE INPUT: true; the input reads as it did. -/
def cellsMostSpec : ChangeSpec := { name := "cellsMost", fn := fun _ => fun
  | [d] => { results := [.lit (.bool true)], args := [d] }
  | _ => none }
def cellsMostRow : OpenClaim := { program := "ytmfncapgikobkaagreat", sum := "dc33e107063a828d9c1efc488d8b4dede478823cc08224bff93a4fd9104c98c1", func := "glider/gliderlaw07.CellsMost", spec := "cellsMost", unfollowed := true, recurses := true, plainKeys := false, apart := false }
def CellsMostSaid : Prop := cellsMostRow.holds Tryz.pinned (OpenSpec.ofChange cellsMostSpec)

/-- ITS FALSE NEIGHBOUR: 'it returns false'. Refute it at one input. -/
def cellsMostWrong : ChangeSpec := { name := "cellsMost", fn := fun _ => fun
  | [d] => { results := [.lit (.bool false)], args := [d] }
  | _ => none }
def CellsMostWrongFalsely : Prop := cellsMostRow.holds Tryz.pinned (OpenSpec.ofChange cellsMostWrong)

/- THE SECOND FORM. 'bulk': how many values and letters a reading holds, each counted each time it is reached (what is shared counts as often as it is met; a slice's spare places count too). A statement '..UptoSaid' is the law's where the arguments, and the package variables that the reading takes, are together of bulk at most 1048576: NARROWER than '..Said'. Prove '..Said' where nothing that the law and all that it calls make is longer than what came in: it says more and counts as full. Else prove '..UptoSaid'. A law counts once. -/
mutual
def uptoBulk {H : Type} : DataW H → Nat
  | .lit (.string bytes) => bytes.length + 1
  | .lit _ => 1
  | .nil => 1
  | .ptr d => uptoBulk d + 1
  | .slice elems spare => uptoBulkAll elems + uptoBulkAll spare + 1
  | .agg parts => uptoBulkAll parts + 1
  | .iface _ d => uptoBulk d + 1
  | .map entries => uptoBulkEntries entries + 1
  | .held _ => 1
def uptoBulkAll {H : Type} : List (DataW H) → Nat
  | [] => 0
  | d :: r => uptoBulk d + uptoBulkAll r
def uptoBulkEntries {H : Type} : List (Lit × DataW H) → Nat
  | [] => 0
  | x :: r => uptoBulkEntry x + uptoBulkEntries r
def uptoBulkEntry {H : Type} : Lit × DataW H → Nat
  | (.string bytes, d) => bytes.length + uptoBulk d + 1
  | (_, d) => uptoBulk d + 1
 end
def uptoSmall : (H : Type) → List (DataW H) → Bool := fun _ ds => decide (uptoBulkAll ds ≤ 1048576)
def OpenSpec.upto (s : _root_.Go.ChangeSpec) : _root_.Go.OpenSpec := { _root_.Go.OpenSpec.ofChange s with cond := some uptoSmall }

/-- 'gliderlaw07.CellsOf', WHERE WHAT IT READS IS OF BULK AT MOST 1048576: true; the input reads as it did. -/
def cellsOfUptoRow : OpenClaim := { program := "ytmfncapgikobkaagreat", sum := "dc33e107063a828d9c1efc488d8b4dede478823cc08224bff93a4fd9104c98c1", func := "glider/gliderlaw07.CellsOf", spec := "cellsOf", unfollowed := true, recurses := true, plainKeys := false, apart := false, narrowed := true }
def CellsOfUptoSaid : Prop := cellsOfUptoRow.holds Tryz.pinned (OpenSpec.upto cellsOfSpec)

/-- 'gliderlaw07.CellsList', WHERE WHAT IT READS IS OF BULK AT MOST 1048576: true; the input reads as it did. -/
def cellsListUptoRow : OpenClaim := { program := "ytmfncapgikobkaagreat", sum := "dc33e107063a828d9c1efc488d8b4dede478823cc08224bff93a4fd9104c98c1", func := "glider/gliderlaw07.CellsList", spec := "cellsList", unfollowed := true, recurses := true, plainKeys := false, apart := false, narrowed := true }
def CellsListUptoSaid : Prop := cellsListUptoRow.holds Tryz.pinned (OpenSpec.upto cellsListSpec)

/-- 'gliderlaw07.CellsBack', WHERE WHAT IT READS IS OF BULK AT MOST 1048576: true; the input reads as it did. -/
def cellsBackUptoRow : OpenClaim := { program := "ytmfncapgikobkaagreat", sum := "dc33e107063a828d9c1efc488d8b4dede478823cc08224bff93a4fd9104c98c1", func := "glider/gliderlaw07.CellsBack", spec := "cellsBack", unfollowed := true, recurses := true, plainKeys := false, apart := false, narrowed := true }
def CellsBackUptoSaid : Prop := cellsBackUptoRow.holds Tryz.pinned (OpenSpec.upto cellsBackSpec)

/-- 'gliderlaw07.CellsMost', WHERE WHAT IT READS IS OF BULK AT MOST 1048576: true; the input reads as it did. -/
def cellsMostUptoRow : OpenClaim := { program := "ytmfncapgikobkaagreat", sum := "dc33e107063a828d9c1efc488d8b4dede478823cc08224bff93a4fd9104c98c1", func := "glider/gliderlaw07.CellsMost", spec := "cellsMost", unfollowed := true, recurses := true, plainKeys := false, apart := false, narrowed := true }
def CellsMostUptoSaid : Prop := cellsMostUptoRow.holds Tryz.pinned (OpenSpec.upto cellsMostSpec)

end Rows
end Go.Proofs.YtmfncapgikobkaaGreat
