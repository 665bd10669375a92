/-
  DERIVED. GIVEN WITH THE SEED: THE CARDS: each row of YtfjajpnfjjdnpaaGreatDoorRows.lean that lists a variable, with what it lists TIED to the program's text (the seventh form; the later family's looks); each row that meets fmt, with fmt's text TOLD by the authors' own Lean function (tested against real Go, not proved from fmt's source: count such statements apart). THE CARD IS WHAT COUNTS. Prove the row's statement (the work); the ties are given (YtfjajpnfjjdnpaaGreatDoorTie.lean); close each card by the builder's one call (the guide's Derived/Test/ToyasCard.lean, 'card_holds'). Laid BY PROGRAM, IN A SANDBOX (cutbox-door.mjs). By AI agents, Wed Nov 11 2026. No macro, syntax, notation, axiom, sorry.
-/
import Derived.Test.YtfjajpnfjjdnpaaGreatDoorRows
import GoSem.ClaimSeven
namespace Go.Proofs.YtfjajpnfjjdnpaaGreatDoor
namespace Rows

/-- THE TIED CARD OF 'gliderlaw12.FlatTexts'. -/
def flatTextsCard : Claim7 := { stood := { row := flatTextsRow, standIns := [], harness := (true, "b6698e4ceb5aa98fdba7471c51c199418d9761430c395c2286fe6029eee4f1f5"), looks := false }, kinds := [], alts := [], laidByText := true, laidKinds := [.data, .pinned], laidTests := true, laidLooks := .later }
def FlatTextsCardSaid : Prop := Claim7.holds Tryz.pinned (.plain (OpenSpec.ofChange flatTextsSpec)) flatTextsCard

/-- THE TIED CARD OF 'gliderlaw12.FlatRaw'. -/
def flatRawCard : Claim7 := { stood := { row := flatRawRow, standIns := [], harness := (true, "b6698e4ceb5aa98fdba7471c51c199418d9761430c395c2286fe6029eee4f1f5"), looks := false }, kinds := [], alts := [], laidByText := true, laidKinds := [.data, .pinned], laidTests := true, laidLooks := .later }
def FlatRawCardSaid : Prop := Claim7.holds Tryz.pinned (.plain (OpenSpec.ofChange flatRawSpec)) flatRawCard

/-- THE TIED CARD OF 'gliderlaw12.FlatOne'. -/
def flatOneCard : Claim7 := { stood := { row := flatOneRow, standIns := [], harness := (true, "b6698e4ceb5aa98fdba7471c51c199418d9761430c395c2286fe6029eee4f1f5"), looks := false }, kinds := [], alts := [], laidByText := true, laidKinds := [.data, .pinned], laidTests := true, laidLooks := .later }
def FlatOneCardSaid : Prop := Claim7.holds Tryz.pinned (.plain (OpenSpec.ofChange flatOneSpec)) flatOneCard

/-- THE TIED CARD OF 'gliderlaw12.FlatLines'. -/
def flatLinesCard : Claim7 := { stood := { row := flatLinesRow, standIns := [], harness := (true, "b6698e4ceb5aa98fdba7471c51c199418d9761430c395c2286fe6029eee4f1f5"), looks := false }, kinds := [], alts := [], laidByText := true, laidKinds := [.data, .pinned], laidTests := true, laidLooks := .later }
def FlatLinesCardSaid : Prop := Claim7.holds Tryz.pinned (.plain (OpenSpec.ofChange flatLinesSpec)) flatLinesCard

/-- THE TIED CARD OF 'gliderlaw13.RunsOne'. -/
def runsOneCard : Claim7 := { stood := { row := runsOneRow, standIns := [], harness := (true, "b6698e4ceb5aa98fdba7471c51c199418d9761430c395c2286fe6029eee4f1f5"), looks := false }, kinds := [], alts := [], laidByText := true, laidKinds := [.data, .data, .data, .data, .pinned], laidTests := true, laidLooks := .later }
def RunsOneCardSaid : Prop := Claim7.holds Tryz.pinned (.plain (OpenSpec.ofChange runsOneSpec)) runsOneCard

/-- THE TIED CARD OF 'gliderlaw13.RunsPaint'. -/
def runsPaintCard : Claim7 := { stood := { row := runsPaintRow, standIns := [], harness := (true, "b6698e4ceb5aa98fdba7471c51c199418d9761430c395c2286fe6029eee4f1f5"), looks := false }, kinds := [], alts := [], laidByText := true, laidKinds := [.data, .data, .data, .data, .pinned], laidTests := true, laidLooks := .later }
def RunsPaintCardSaid : Prop := Claim7.holds Tryz.pinned (.plain (OpenSpec.ofChange runsPaintSpec)) runsPaintCard

/-- THE TIED CARD OF 'gliderlaw14.TreeTexts'. -/
def treeTextsCard : Claim7 := { stood := { row := treeTextsRow, standIns := [], harness := (true, "b6698e4ceb5aa98fdba7471c51c199418d9761430c395c2286fe6029eee4f1f5"), looks := false }, kinds := [], alts := [], laidByText := true, laidKinds := [.data, .data, .data, .data, .pinned], laidTests := true, laidLooks := .later }
def TreeTextsCardSaid : Prop := Claim7.holds Tryz.pinned (.plain (OpenSpec.ofChange treeTextsSpec)) treeTextsCard

/-- THE TIED CARD OF 'gliderlaw14.TreeLeaves'. -/
def treeLeavesCard : Claim7 := { stood := { row := treeLeavesRow, standIns := [], harness := (true, "b6698e4ceb5aa98fdba7471c51c199418d9761430c395c2286fe6029eee4f1f5"), looks := false }, kinds := [], alts := [], laidByText := true, laidKinds := [.data, .data, .data, .data, .pinned], laidTests := true, laidLooks := .later }
def TreeLeavesCardSaid : Prop := Claim7.holds Tryz.pinned (.plain (OpenSpec.ofChange treeLeavesSpec)) treeLeavesCard

/-- THE TIED CARD OF 'gliderlaw14.TreeOne'. -/
def treeOneCard : Claim7 := { stood := { row := treeOneRow, standIns := [], harness := (true, "b6698e4ceb5aa98fdba7471c51c199418d9761430c395c2286fe6029eee4f1f5"), looks := false }, kinds := [], alts := [], laidByText := true, laidKinds := [.data, .data, .data, .data, .pinned], laidTests := true, laidLooks := .later }
def TreeOneCardSaid : Prop := Claim7.holds Tryz.pinned (.plain (OpenSpec.ofChange treeOneSpec)) treeOneCard

/-- THE SECOND FORM's CARD OF 'gliderlaw12.FlatTexts'. -/
def flatTextsUptoCard : Claim7 := { stood := { row := flatTextsUptoRow, standIns := [], harness := (true, "b6698e4ceb5aa98fdba7471c51c199418d9761430c395c2286fe6029eee4f1f5"), looks := false }, kinds := [], alts := [], laidByText := true, laidKinds := [.data, .pinned], laidTests := true, laidLooks := .later }
def FlatTextsUptoCardSaid : Prop := Claim7.holds Tryz.pinned (.plain (OpenSpec.upto flatTextsSpec)) flatTextsUptoCard

/-- THE SECOND FORM's CARD OF 'gliderlaw12.FlatRaw'. -/
def flatRawUptoCard : Claim7 := { stood := { row := flatRawUptoRow, standIns := [], harness := (true, "b6698e4ceb5aa98fdba7471c51c199418d9761430c395c2286fe6029eee4f1f5"), looks := false }, kinds := [], alts := [], laidByText := true, laidKinds := [.data, .pinned], laidTests := true, laidLooks := .later }
def FlatRawUptoCardSaid : Prop := Claim7.holds Tryz.pinned (.plain (OpenSpec.upto flatRawSpec)) flatRawUptoCard

/-- THE SECOND FORM's CARD OF 'gliderlaw12.FlatOne'. -/
def flatOneUptoCard : Claim7 := { stood := { row := flatOneUptoRow, standIns := [], harness := (true, "b6698e4ceb5aa98fdba7471c51c199418d9761430c395c2286fe6029eee4f1f5"), looks := false }, kinds := [], alts := [], laidByText := true, laidKinds := [.data, .pinned], laidTests := true, laidLooks := .later }
def FlatOneUptoCardSaid : Prop := Claim7.holds Tryz.pinned (.plain (OpenSpec.upto flatOneSpec)) flatOneUptoCard

/-- THE SECOND FORM's CARD OF 'gliderlaw12.FlatLines'. -/
def flatLinesUptoCard : Claim7 := { stood := { row := flatLinesUptoRow, standIns := [], harness := (true, "b6698e4ceb5aa98fdba7471c51c199418d9761430c395c2286fe6029eee4f1f5"), looks := false }, kinds := [], alts := [], laidByText := true, laidKinds := [.data, .pinned], laidTests := true, laidLooks := .later }
def FlatLinesUptoCardSaid : Prop := Claim7.holds Tryz.pinned (.plain (OpenSpec.upto flatLinesSpec)) flatLinesUptoCard

/-- THE SECOND FORM's CARD OF 'gliderlaw13.RunsOne'. -/
def runsOneUptoCard : Claim7 := { stood := { row := runsOneUptoRow, standIns := [], harness := (true, "b6698e4ceb5aa98fdba7471c51c199418d9761430c395c2286fe6029eee4f1f5"), looks := false }, kinds := [], alts := [], laidByText := true, laidKinds := [.data, .data, .data, .data, .pinned], laidTests := true, laidLooks := .later }
def RunsOneUptoCardSaid : Prop := Claim7.holds Tryz.pinned (.plain (OpenSpec.upto runsOneSpec)) runsOneUptoCard

/-- THE SECOND FORM's CARD OF 'gliderlaw13.RunsPaint'. -/
def runsPaintUptoCard : Claim7 := { stood := { row := runsPaintUptoRow, standIns := [], harness := (true, "b6698e4ceb5aa98fdba7471c51c199418d9761430c395c2286fe6029eee4f1f5"), looks := false }, kinds := [], alts := [], laidByText := true, laidKinds := [.data, .data, .data, .data, .pinned], laidTests := true, laidLooks := .later }
def RunsPaintUptoCardSaid : Prop := Claim7.holds Tryz.pinned (.plain (OpenSpec.upto runsPaintSpec)) runsPaintUptoCard

/-- THE SECOND FORM's CARD OF 'gliderlaw14.TreeTexts'. -/
def treeTextsUptoCard : Claim7 := { stood := { row := treeTextsUptoRow, standIns := [], harness := (true, "b6698e4ceb5aa98fdba7471c51c199418d9761430c395c2286fe6029eee4f1f5"), looks := false }, kinds := [], alts := [], laidByText := true, laidKinds := [.data, .data, .data, .data, .pinned], laidTests := true, laidLooks := .later }
def TreeTextsUptoCardSaid : Prop := Claim7.holds Tryz.pinned (.plain (OpenSpec.upto treeTextsSpec)) treeTextsUptoCard

/-- THE SECOND FORM's CARD OF 'gliderlaw14.TreeLeaves'. -/
def treeLeavesUptoCard : Claim7 := { stood := { row := treeLeavesUptoRow, standIns := [], harness := (true, "b6698e4ceb5aa98fdba7471c51c199418d9761430c395c2286fe6029eee4f1f5"), looks := false }, kinds := [], alts := [], laidByText := true, laidKinds := [.data, .data, .data, .data, .pinned], laidTests := true, laidLooks := .later }
def TreeLeavesUptoCardSaid : Prop := Claim7.holds Tryz.pinned (.plain (OpenSpec.upto treeLeavesSpec)) treeLeavesUptoCard

/-- THE SECOND FORM's CARD OF 'gliderlaw14.TreeOne'. -/
def treeOneUptoCard : Claim7 := { stood := { row := treeOneUptoRow, standIns := [], harness := (true, "b6698e4ceb5aa98fdba7471c51c199418d9761430c395c2286fe6029eee4f1f5"), looks := false }, kinds := [], alts := [], laidByText := true, laidKinds := [.data, .data, .data, .data, .pinned], laidTests := true, laidLooks := .later }
def TreeOneUptoCardSaid : Prop := Claim7.holds Tryz.pinned (.plain (OpenSpec.upto treeOneSpec)) treeOneUptoCard
end Rows
end Go.Proofs.YtfjajpnfjjdnpaaGreatDoor
