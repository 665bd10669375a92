/-
  DERIVED. GIVEN WITH THE SEED: THE CARDS: each row of YtcippfaljoagaaaGreatDoorRows.lean that lists a variable, with what it lists TIED to the program's text (the seventh form; the later family's looks); each row that meets fmt, with fmt's text TOLD by the authors' own Lean function (tested against real Go, not proved from fmt's source: count such statements apart). THE CARD IS WHAT COUNTS. Prove the row's statement (the work); the ties are given (YtcippfaljoagaaaGreatDoorTie.lean); close each card by the builder's one call (the guide's Derived/Test/ToyasCard.lean, 'card_holds'). Laid BY PROGRAM, IN A SANDBOX (cutbox-door.mjs). By AI agents, Wed Nov 11 2026. No macro, syntax, notation, axiom, sorry.
-/
import Derived.Test.YtcippfaljoagaaaGreatDoorRows
import GoSem.ClaimSeven
namespace Go.Proofs.YtcippfaljoagaaaGreatDoor
namespace Rows

/-- THE TIED CARD OF 'gliderlaw12.FlatTexts'. -/
def flatTextsCard : Claim7 := { stood := { row := flatTextsRow, standIns := [], harness := (true, "93f8ebf0bd585bf1b558314d30c7ee289cc37b7ceba40e3e442344ee83c537b2"), looks := false }, kinds := [], alts := [], laidByText := true, laidKinds := [.data, .pinned], laidTests := true, laidLooks := .later }
def FlatTextsCardSaid : Prop := Claim7.holds Tryz.pinned (.plain (OpenSpec.ofChange flatTextsSpec)) flatTextsCard

/-- THE TIED CARD OF 'gliderlaw12.FlatRaw'. -/
def flatRawCard : Claim7 := { stood := { row := flatRawRow, standIns := [], harness := (true, "93f8ebf0bd585bf1b558314d30c7ee289cc37b7ceba40e3e442344ee83c537b2"), looks := false }, kinds := [], alts := [], laidByText := true, laidKinds := [.data, .pinned], laidTests := true, laidLooks := .later }
def FlatRawCardSaid : Prop := Claim7.holds Tryz.pinned (.plain (OpenSpec.ofChange flatRawSpec)) flatRawCard

/-- THE TIED CARD OF 'gliderlaw12.FlatOne'. -/
def flatOneCard : Claim7 := { stood := { row := flatOneRow, standIns := [], harness := (true, "93f8ebf0bd585bf1b558314d30c7ee289cc37b7ceba40e3e442344ee83c537b2"), looks := false }, kinds := [], alts := [], laidByText := true, laidKinds := [.data, .pinned], laidTests := true, laidLooks := .later }
def FlatOneCardSaid : Prop := Claim7.holds Tryz.pinned (.plain (OpenSpec.ofChange flatOneSpec)) flatOneCard

/-- THE TIED CARD OF 'gliderlaw12.FlatLines'. -/
def flatLinesCard : Claim7 := { stood := { row := flatLinesRow, standIns := [], harness := (true, "93f8ebf0bd585bf1b558314d30c7ee289cc37b7ceba40e3e442344ee83c537b2"), looks := false }, kinds := [], alts := [], laidByText := true, laidKinds := [.data, .pinned], laidTests := true, laidLooks := .later }
def FlatLinesCardSaid : Prop := Claim7.holds Tryz.pinned (.plain (OpenSpec.ofChange flatLinesSpec)) flatLinesCard

/-- THE TIED CARD OF 'gliderlaw13.RunsSigns'. -/
def runsSignsCard : Claim7 := { stood := { row := runsSignsRow, standIns := [], harness := (true, "93f8ebf0bd585bf1b558314d30c7ee289cc37b7ceba40e3e442344ee83c537b2"), looks := false }, kinds := [], alts := [], laidByText := true, laidKinds := [.data, .data, .data, .data, .pinned], laidTests := true, laidLooks := .later }
def RunsSignsCardSaid : Prop := Claim7.holds Tryz.pinned (.plain (OpenSpec.ofChange runsSignsSpec)) runsSignsCard

/-- THE TIED CARD OF 'gliderlaw13.RunsTexts'. -/
def runsTextsCard : Claim7 := { stood := { row := runsTextsRow, standIns := [], harness := (true, "93f8ebf0bd585bf1b558314d30c7ee289cc37b7ceba40e3e442344ee83c537b2"), looks := false }, kinds := [], alts := [], laidByText := true, laidKinds := [.data, .data, .data, .data, .pinned], laidTests := true, laidLooks := .later }
def RunsTextsCardSaid : Prop := Claim7.holds Tryz.pinned (.plain (OpenSpec.ofChange runsTextsSpec)) runsTextsCard

/-- THE TIED CARD OF 'gliderlaw13.RunsOne'. -/
def runsOneCard : Claim7 := { stood := { row := runsOneRow, standIns := [], harness := (true, "93f8ebf0bd585bf1b558314d30c7ee289cc37b7ceba40e3e442344ee83c537b2"), looks := false }, kinds := [], alts := [], laidByText := true, laidKinds := [.data, .data, .data, .data, .pinned], laidTests := true, laidLooks := .later }
def RunsOneCardSaid : Prop := Claim7.holds Tryz.pinned (.plain (OpenSpec.ofChange runsOneSpec)) runsOneCard

/-- THE TIED CARD OF 'gliderlaw13.RunsPaint'. -/
def runsPaintCard : Claim7 := { stood := { row := runsPaintRow, standIns := [], harness := (true, "93f8ebf0bd585bf1b558314d30c7ee289cc37b7ceba40e3e442344ee83c537b2"), looks := false }, kinds := [], alts := [], laidByText := true, laidKinds := [.data, .data, .data, .data, .pinned], laidTests := true, laidLooks := .later }
def RunsPaintCardSaid : Prop := Claim7.holds Tryz.pinned (.plain (OpenSpec.ofChange runsPaintSpec)) runsPaintCard

/-- THE SECOND FORM's CARD OF 'gliderlaw12.FlatTexts'. -/
def flatTextsUptoCard : Claim7 := { stood := { row := flatTextsUptoRow, standIns := [], harness := (true, "93f8ebf0bd585bf1b558314d30c7ee289cc37b7ceba40e3e442344ee83c537b2"), looks := false }, kinds := [], alts := [], laidByText := true, laidKinds := [.data, .pinned], laidTests := true, laidLooks := .later }
def FlatTextsUptoCardSaid : Prop := Claim7.holds Tryz.pinned (.plain (OpenSpec.upto flatTextsSpec)) flatTextsUptoCard

/-- THE SECOND FORM's CARD OF 'gliderlaw12.FlatRaw'. -/
def flatRawUptoCard : Claim7 := { stood := { row := flatRawUptoRow, standIns := [], harness := (true, "93f8ebf0bd585bf1b558314d30c7ee289cc37b7ceba40e3e442344ee83c537b2"), looks := false }, kinds := [], alts := [], laidByText := true, laidKinds := [.data, .pinned], laidTests := true, laidLooks := .later }
def FlatRawUptoCardSaid : Prop := Claim7.holds Tryz.pinned (.plain (OpenSpec.upto flatRawSpec)) flatRawUptoCard

/-- THE SECOND FORM's CARD OF 'gliderlaw12.FlatOne'. -/
def flatOneUptoCard : Claim7 := { stood := { row := flatOneUptoRow, standIns := [], harness := (true, "93f8ebf0bd585bf1b558314d30c7ee289cc37b7ceba40e3e442344ee83c537b2"), looks := false }, kinds := [], alts := [], laidByText := true, laidKinds := [.data, .pinned], laidTests := true, laidLooks := .later }
def FlatOneUptoCardSaid : Prop := Claim7.holds Tryz.pinned (.plain (OpenSpec.upto flatOneSpec)) flatOneUptoCard

/-- THE SECOND FORM's CARD OF 'gliderlaw12.FlatLines'. -/
def flatLinesUptoCard : Claim7 := { stood := { row := flatLinesUptoRow, standIns := [], harness := (true, "93f8ebf0bd585bf1b558314d30c7ee289cc37b7ceba40e3e442344ee83c537b2"), looks := false }, kinds := [], alts := [], laidByText := true, laidKinds := [.data, .pinned], laidTests := true, laidLooks := .later }
def FlatLinesUptoCardSaid : Prop := Claim7.holds Tryz.pinned (.plain (OpenSpec.upto flatLinesSpec)) flatLinesUptoCard

/-- THE SECOND FORM's CARD OF 'gliderlaw13.RunsSigns'. -/
def runsSignsUptoCard : Claim7 := { stood := { row := runsSignsUptoRow, standIns := [], harness := (true, "93f8ebf0bd585bf1b558314d30c7ee289cc37b7ceba40e3e442344ee83c537b2"), looks := false }, kinds := [], alts := [], laidByText := true, laidKinds := [.data, .data, .data, .data, .pinned], laidTests := true, laidLooks := .later }
def RunsSignsUptoCardSaid : Prop := Claim7.holds Tryz.pinned (.plain (OpenSpec.upto runsSignsSpec)) runsSignsUptoCard

/-- THE SECOND FORM's CARD OF 'gliderlaw13.RunsTexts'. -/
def runsTextsUptoCard : Claim7 := { stood := { row := runsTextsUptoRow, standIns := [], harness := (true, "93f8ebf0bd585bf1b558314d30c7ee289cc37b7ceba40e3e442344ee83c537b2"), looks := false }, kinds := [], alts := [], laidByText := true, laidKinds := [.data, .data, .data, .data, .pinned], laidTests := true, laidLooks := .later }
def RunsTextsUptoCardSaid : Prop := Claim7.holds Tryz.pinned (.plain (OpenSpec.upto runsTextsSpec)) runsTextsUptoCard

/-- THE SECOND FORM's CARD OF 'gliderlaw13.RunsOne'. -/
def runsOneUptoCard : Claim7 := { stood := { row := runsOneUptoRow, standIns := [], harness := (true, "93f8ebf0bd585bf1b558314d30c7ee289cc37b7ceba40e3e442344ee83c537b2"), looks := false }, kinds := [], alts := [], laidByText := true, laidKinds := [.data, .data, .data, .data, .pinned], laidTests := true, laidLooks := .later }
def RunsOneUptoCardSaid : Prop := Claim7.holds Tryz.pinned (.plain (OpenSpec.upto runsOneSpec)) runsOneUptoCard

/-- THE SECOND FORM's CARD OF 'gliderlaw13.RunsPaint'. -/
def runsPaintUptoCard : Claim7 := { stood := { row := runsPaintUptoRow, standIns := [], harness := (true, "93f8ebf0bd585bf1b558314d30c7ee289cc37b7ceba40e3e442344ee83c537b2"), looks := false }, kinds := [], alts := [], laidByText := true, laidKinds := [.data, .data, .data, .data, .pinned], laidTests := true, laidLooks := .later }
def RunsPaintUptoCardSaid : Prop := Claim7.holds Tryz.pinned (.plain (OpenSpec.upto runsPaintSpec)) runsPaintUptoCard
end Rows
end Go.Proofs.YtcippfaljoagaaaGreatDoor
