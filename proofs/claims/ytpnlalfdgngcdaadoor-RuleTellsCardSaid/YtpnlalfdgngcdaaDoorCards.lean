/-
  DERIVED. GIVEN WITH THE SEED: THE CARDS: each row of YtpnlalfdgngcdaaDoorRows.lean that lists a variable, with what it lists TIED to the program's text (the seventh form; the later family's looks); each row that meets fmt, with fmt's text TOLD by the authors' own Lean function (tested against real Go, not proved from fmt's source: count such statements apart). THE CARD IS WHAT COUNTS. Prove the row's statement (the work); the ties are given (YtpnlalfdgngcdaaDoorTie.lean); close each card by the builder's one call (the guide's Derived/Test/ToyasCard.lean, 'card_holds'). Laid BY PROGRAM, IN A SANDBOX (cutbox-door.mjs). By AI agents, Wed Nov 11 2026. No macro, syntax, notation, axiom, sorry.
-/
import Derived.Test.YtpnlalfdgngcdaaDoorRows
import GoSem.ClaimSeven
namespace Go.Proofs.YtpnlalfdgngcdaaDoor
namespace Rows

/-- THE TIED CARD OF 'prefectlaw18.RuleTells'. -/
def ruleTellsCard : Claim7 := { stood := { row := ruleTellsRow, standIns := [], harness := (true, "70306a21aa8572da5e6412590e88a8a4a3f3fd53b1f6c51c531ab7d23b512f95"), looks := false }, kinds := [], alts := [], laidByText := true, laidKinds := [.data, .pinned], laidTests := true, laidLooks := .later }
def RuleTellsCardSaid : Prop := Claim7.holds Tryd.pinned (.plain (OpenSpec.ofChange ruleTellsSpec)) ruleTellsCard

/-- THE TIED CARD OF 'prefectlaw18.RuleBack'. -/
def ruleBackCard : Claim7 := { stood := { row := ruleBackRow, standIns := [], harness := (true, "70306a21aa8572da5e6412590e88a8a4a3f3fd53b1f6c51c531ab7d23b512f95"), looks := false }, kinds := [], alts := [], laidByText := true, laidKinds := [.data, .pinned], laidTests := true, laidLooks := .later }
def RuleBackCardSaid : Prop := Claim7.holds Tryd.pinned (.plain (OpenSpec.ofChange ruleBackSpec)) ruleBackCard

/-- THE TIED CARD OF 'prefectlaw18.RuleLetters'. -/
def ruleLettersCard : Claim7 := { stood := { row := ruleLettersRow, standIns := [], harness := (true, "70306a21aa8572da5e6412590e88a8a4a3f3fd53b1f6c51c531ab7d23b512f95"), looks := false }, kinds := [], alts := [], laidByText := true, laidKinds := [.data, .pinned], laidTests := true, laidLooks := .later }
def RuleLettersCardSaid : Prop := Claim7.holds Tryd.pinned (.plain (OpenSpec.ofChange ruleLettersSpec)) ruleLettersCard

/-- THE SECOND FORM's CARD OF 'prefectlaw18.RuleTells'. -/
def ruleTellsUptoCard : Claim7 := { stood := { row := ruleTellsUptoRow, standIns := [], harness := (true, "70306a21aa8572da5e6412590e88a8a4a3f3fd53b1f6c51c531ab7d23b512f95"), looks := false }, kinds := [], alts := [], laidByText := true, laidKinds := [.data, .pinned], laidTests := true, laidLooks := .later }
def RuleTellsUptoCardSaid : Prop := Claim7.holds Tryd.pinned (.plain (OpenSpec.upto ruleTellsSpec)) ruleTellsUptoCard

/-- THE SECOND FORM's CARD OF 'prefectlaw18.RuleBack'. -/
def ruleBackUptoCard : Claim7 := { stood := { row := ruleBackUptoRow, standIns := [], harness := (true, "70306a21aa8572da5e6412590e88a8a4a3f3fd53b1f6c51c531ab7d23b512f95"), looks := false }, kinds := [], alts := [], laidByText := true, laidKinds := [.data, .pinned], laidTests := true, laidLooks := .later }
def RuleBackUptoCardSaid : Prop := Claim7.holds Tryd.pinned (.plain (OpenSpec.upto ruleBackSpec)) ruleBackUptoCard

/-- THE SECOND FORM's CARD OF 'prefectlaw18.RuleLetters'. -/
def ruleLettersUptoCard : Claim7 := { stood := { row := ruleLettersUptoRow, standIns := [], harness := (true, "70306a21aa8572da5e6412590e88a8a4a3f3fd53b1f6c51c531ab7d23b512f95"), looks := false }, kinds := [], alts := [], laidByText := true, laidKinds := [.data, .pinned], laidTests := true, laidLooks := .later }
def RuleLettersUptoCardSaid : Prop := Claim7.holds Tryd.pinned (.plain (OpenSpec.upto ruleLettersSpec)) ruleLettersUptoCard
end Rows
end Go.Proofs.YtpnlalfdgngcdaaDoor
