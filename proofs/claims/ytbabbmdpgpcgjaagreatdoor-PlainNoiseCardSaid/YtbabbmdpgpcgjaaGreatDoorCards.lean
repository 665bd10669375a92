/-
  DERIVED. GIVEN WITH THE SEED: THE CARDS: each row of YtbabbmdpgpcgjaaGreatDoorRows.lean that lists a variable, with what it lists TIED to the program's text (the seventh form; the later family's looks); each row that meets fmt, with fmt's text TOLD by the authors' own Lean function (tested against real Go, not proved from fmt's source: count such statements apart). THE CARD IS WHAT COUNTS. Prove the row's statement (the work); the ties are given (YtbabbmdpgpcgjaaGreatDoorTie.lean); close each card by the builder's one call (the guide's Derived/Test/ToyasCard.lean, 'card_holds'). Laid BY PROGRAM, IN A SANDBOX (cutbox-door.mjs). By AI agents, Wed Nov 11 2026. No macro, syntax, notation, axiom, sorry.
-/
import Derived.Test.YtbabbmdpgpcgjaaGreatDoorRows
import GoSem.ClaimSeven
namespace Go.Proofs.YtbabbmdpgpcgjaaGreatDoor
namespace Rows

/-- THE TIED CARD OF 'gliderlaw15.PlainReads'. -/
def plainReadsCard : Claim7 := { stood := { row := plainReadsRow, standIns := [], harness := (true, "e3c7402d204da6ffbf2a52fa6d1f531d9aea72762d3dacbdfaaa07dee8709f7a"), looks := true }, kinds := [], alts := [], laidByText := true, laidKinds := [.data, .pinned], laidTests := true, laidLooks := .later }
def PlainReadsCardSaid : Prop := Claim7.holds Tryz.pinned (.plain (OpenSpec.ofChange plainReadsSpec)) plainReadsCard

/-- THE TIED CARD OF 'gliderlaw15.PlainBack'. -/
def plainBackCard : Claim7 := { stood := { row := plainBackRow, standIns := [], harness := (true, "e3c7402d204da6ffbf2a52fa6d1f531d9aea72762d3dacbdfaaa07dee8709f7a"), looks := true }, kinds := [], alts := [], laidByText := true, laidKinds := [.data, .pinned], laidTests := true, laidLooks := .later }
def PlainBackCardSaid : Prop := Claim7.holds Tryz.pinned (.plain (OpenSpec.ofChange plainBackSpec)) plainBackCard

/-- THE TIED CARD OF 'gliderlaw15.PlainNoise'. -/
def plainNoiseCard : Claim7 := { stood := { row := plainNoiseRow, standIns := [], harness := (true, "e3c7402d204da6ffbf2a52fa6d1f531d9aea72762d3dacbdfaaa07dee8709f7a"), looks := true }, kinds := [], alts := [], laidByText := true, laidKinds := [.data, .pinned], laidTests := true, laidLooks := .later }
def PlainNoiseCardSaid : Prop := Claim7.holds Tryz.pinned (.plain (OpenSpec.ofChange plainNoiseSpec)) plainNoiseCard

/-- THE SECOND FORM's CARD OF 'gliderlaw15.PlainReads'. -/
def plainReadsUptoCard : Claim7 := { stood := { row := plainReadsUptoRow, standIns := [], harness := (true, "e3c7402d204da6ffbf2a52fa6d1f531d9aea72762d3dacbdfaaa07dee8709f7a"), looks := true }, kinds := [], alts := [], laidByText := true, laidKinds := [.data, .pinned], laidTests := true, laidLooks := .later }
def PlainReadsUptoCardSaid : Prop := Claim7.holds Tryz.pinned (.plain (OpenSpec.upto plainReadsSpec)) plainReadsUptoCard

/-- THE SECOND FORM's CARD OF 'gliderlaw15.PlainBack'. -/
def plainBackUptoCard : Claim7 := { stood := { row := plainBackUptoRow, standIns := [], harness := (true, "e3c7402d204da6ffbf2a52fa6d1f531d9aea72762d3dacbdfaaa07dee8709f7a"), looks := true }, kinds := [], alts := [], laidByText := true, laidKinds := [.data, .pinned], laidTests := true, laidLooks := .later }
def PlainBackUptoCardSaid : Prop := Claim7.holds Tryz.pinned (.plain (OpenSpec.upto plainBackSpec)) plainBackUptoCard

/-- THE SECOND FORM's CARD OF 'gliderlaw15.PlainNoise'. -/
def plainNoiseUptoCard : Claim7 := { stood := { row := plainNoiseUptoRow, standIns := [], harness := (true, "e3c7402d204da6ffbf2a52fa6d1f531d9aea72762d3dacbdfaaa07dee8709f7a"), looks := true }, kinds := [], alts := [], laidByText := true, laidKinds := [.data, .pinned], laidTests := true, laidLooks := .later }
def PlainNoiseUptoCardSaid : Prop := Claim7.holds Tryz.pinned (.plain (OpenSpec.upto plainNoiseSpec)) plainNoiseUptoCard
end Rows
end Go.Proofs.YtbabbmdpgpcgjaaGreatDoor
