/-
  DERIVED. GIVEN WITH THE SEED: THE CARDS: each row of YticfemheneljmaaDoorRows.lean that lists a variable, with what it lists TIED to the program's text (the seventh form; the later family's looks); each row that meets fmt, with fmt's text TOLD by the authors' own Lean function (tested against real Go, not proved from fmt's source: count such statements apart). THE CARD IS WHAT COUNTS. Prove the row's statement (the work); the ties are given (YticfemheneljmaaDoorTie.lean); close each card by the builder's one call (the guide's Derived/Test/ToyasCard.lean, 'card_holds'). Laid BY PROGRAM, IN A SANDBOX (cutbox-door.mjs). By AI agents, Wed Nov 11 2026. No macro, syntax, notation, axiom, sorry.
-/
import Derived.Test.YticfemheneljmaaDoorRows
import GoSem.ClaimSeven
namespace Go.Proofs.YticfemheneljmaaDoor
namespace Rows

/-- THE TIED CARD OF 'prefectlaw7.FilterTells'. -/
def filterTellsCard : Claim7 := { stood := { row := filterTellsRow, standIns := [], harness := (true, "38755ed7c4e95da1bf174d013f146f9294b00a89c166be36b7e43d0c8b54f8c3"), looks := false }, kinds := [], alts := [], laidByText := true, laidKinds := [.data, .pinned], laidTests := true, laidLooks := .later }
def FilterTellsCardSaid : Prop := Claim7.holds Tryd.pinned (.plain (OpenSpec.ofChange filterTellsSpec)) filterTellsCard

/-- THE TIED CARD OF 'prefectlaw7.FilterBack'. -/
def filterBackCard : Claim7 := { stood := { row := filterBackRow, standIns := [], harness := (true, "38755ed7c4e95da1bf174d013f146f9294b00a89c166be36b7e43d0c8b54f8c3"), looks := false }, kinds := [], alts := [], laidByText := true, laidKinds := [.data, .pinned], laidTests := true, laidLooks := .later }
def FilterBackCardSaid : Prop := Claim7.holds Tryd.pinned (.plain (OpenSpec.ofChange filterBackSpec)) filterBackCard

/-- THE TIED CARD OF 'prefectlaw7.FilterReads'. -/
def filterReadsCard : Claim7 := { stood := { row := filterReadsRow, standIns := [], harness := (true, "38755ed7c4e95da1bf174d013f146f9294b00a89c166be36b7e43d0c8b54f8c3"), looks := false }, kinds := [], alts := [], laidByText := true, laidKinds := [.data, .pinned], laidTests := true, laidLooks := .later }
def FilterReadsCardSaid : Prop := Claim7.holds Tryd.pinned (.plain (OpenSpec.ofChange filterReadsSpec)) filterReadsCard

/-- THE TIED CARD OF 'prefectlaw7.FilterNests'. -/
def filterNestsCard : Claim7 := { stood := { row := filterNestsRow, standIns := [], harness := (true, "38755ed7c4e95da1bf174d013f146f9294b00a89c166be36b7e43d0c8b54f8c3"), looks := false }, kinds := [], alts := [], laidByText := true, laidKinds := [.data, .pinned], laidTests := true, laidLooks := .later }
def FilterNestsCardSaid : Prop := Claim7.holds Tryd.pinned (.plain (OpenSpec.ofChange filterNestsSpec)) filterNestsCard

/-- THE TIED CARD OF 'prefectlaw7.FilterBytes'. -/
def filterBytesCard : Claim7 := { stood := { row := filterBytesRow, standIns := [], harness := (true, "38755ed7c4e95da1bf174d013f146f9294b00a89c166be36b7e43d0c8b54f8c3"), looks := false }, kinds := [], alts := [], laidByText := true, laidKinds := [.data, .pinned], laidTests := true, laidLooks := .later }
def FilterBytesCardSaid : Prop := Claim7.holds Tryd.pinned (.plain (OpenSpec.ofChange filterBytesSpec)) filterBytesCard

/-- THE SECOND FORM's CARD OF 'prefectlaw7.FilterTells'. -/
def filterTellsUptoCard : Claim7 := { stood := { row := filterTellsUptoRow, standIns := [], harness := (true, "38755ed7c4e95da1bf174d013f146f9294b00a89c166be36b7e43d0c8b54f8c3"), looks := false }, kinds := [], alts := [], laidByText := true, laidKinds := [.data, .pinned], laidTests := true, laidLooks := .later }
def FilterTellsUptoCardSaid : Prop := Claim7.holds Tryd.pinned (.plain (OpenSpec.upto filterTellsSpec)) filterTellsUptoCard

/-- THE SECOND FORM's CARD OF 'prefectlaw7.FilterBack'. -/
def filterBackUptoCard : Claim7 := { stood := { row := filterBackUptoRow, standIns := [], harness := (true, "38755ed7c4e95da1bf174d013f146f9294b00a89c166be36b7e43d0c8b54f8c3"), looks := false }, kinds := [], alts := [], laidByText := true, laidKinds := [.data, .pinned], laidTests := true, laidLooks := .later }
def FilterBackUptoCardSaid : Prop := Claim7.holds Tryd.pinned (.plain (OpenSpec.upto filterBackSpec)) filterBackUptoCard

/-- THE SECOND FORM's CARD OF 'prefectlaw7.FilterReads'. -/
def filterReadsUptoCard : Claim7 := { stood := { row := filterReadsUptoRow, standIns := [], harness := (true, "38755ed7c4e95da1bf174d013f146f9294b00a89c166be36b7e43d0c8b54f8c3"), looks := false }, kinds := [], alts := [], laidByText := true, laidKinds := [.data, .pinned], laidTests := true, laidLooks := .later }
def FilterReadsUptoCardSaid : Prop := Claim7.holds Tryd.pinned (.plain (OpenSpec.upto filterReadsSpec)) filterReadsUptoCard

/-- THE SECOND FORM's CARD OF 'prefectlaw7.FilterNests'. -/
def filterNestsUptoCard : Claim7 := { stood := { row := filterNestsUptoRow, standIns := [], harness := (true, "38755ed7c4e95da1bf174d013f146f9294b00a89c166be36b7e43d0c8b54f8c3"), looks := false }, kinds := [], alts := [], laidByText := true, laidKinds := [.data, .pinned], laidTests := true, laidLooks := .later }
def FilterNestsUptoCardSaid : Prop := Claim7.holds Tryd.pinned (.plain (OpenSpec.upto filterNestsSpec)) filterNestsUptoCard

/-- THE SECOND FORM's CARD OF 'prefectlaw7.FilterBytes'. -/
def filterBytesUptoCard : Claim7 := { stood := { row := filterBytesUptoRow, standIns := [], harness := (true, "38755ed7c4e95da1bf174d013f146f9294b00a89c166be36b7e43d0c8b54f8c3"), looks := false }, kinds := [], alts := [], laidByText := true, laidKinds := [.data, .pinned], laidTests := true, laidLooks := .later }
def FilterBytesUptoCardSaid : Prop := Claim7.holds Tryd.pinned (.plain (OpenSpec.upto filterBytesSpec)) filterBytesUptoCard
end Rows
end Go.Proofs.YticfemheneljmaaDoor
