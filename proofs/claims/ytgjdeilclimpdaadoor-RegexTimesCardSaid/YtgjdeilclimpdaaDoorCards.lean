/-
  DERIVED. GIVEN WITH THE SEED: THE CARDS: each row of YtgjdeilclimpdaaDoorRows.lean that lists a variable, with what it lists TIED to the program's text (the seventh form; the later family's looks); each row that meets fmt, with fmt's text TOLD by the authors' own Lean function (tested against real Go, not proved from fmt's source: count such statements apart). THE CARD IS WHAT COUNTS. Prove the row's statement (the work); the ties are given (YtgjdeilclimpdaaDoorTie.lean); close each card by the builder's one call (the guide's Derived/Test/ToyasCard.lean, 'card_holds'). Laid BY PROGRAM, IN A SANDBOX (cutbox-door.mjs). By AI agents, Wed Nov 11 2026. No macro, syntax, notation, axiom, sorry.
-/
import Derived.Test.YtgjdeilclimpdaaDoorRows
import GoSem.ClaimSeven
namespace Go.Proofs.YtgjdeilclimpdaaDoor
namespace Rows

/-- THE TIED CARD OF 'barographlaw08.RegexParts'. -/
def regexPartsCard : Claim7 := { stood := { row := regexPartsRow, standIns := [], harness := (true, "55b9552654f5e4ab7ac7b4e1554ef897c0017c3be9ebf32a2c7afd333b6d7c14"), looks := false }, kinds := [], alts := [], laidByText := true, laidKinds := [.data], laidTests := true, laidLooks := .later }
def RegexPartsCardSaid : Prop := Claim7.holds Tryd.pinned (.plain (OpenSpec.ofChange regexPartsSpec)) regexPartsCard

/-- THE TIED CARD OF 'barographlaw08.RegexWord'. -/
def regexWordCard : Claim7 := { stood := { row := regexWordRow, standIns := [], harness := (true, "55b9552654f5e4ab7ac7b4e1554ef897c0017c3be9ebf32a2c7afd333b6d7c14"), looks := false }, kinds := [], alts := [], laidByText := true, laidKinds := [.data], laidTests := true, laidLooks := .later }
def RegexWordCardSaid : Prop := Claim7.holds Tryd.pinned (.plain (OpenSpec.ofChange regexWordSpec)) regexWordCard

/-- THE TIED CARD OF 'barographlaw08.RegexTimes'. -/
def regexTimesCard : Claim7 := { stood := { row := regexTimesRow, standIns := [], harness := (true, "55b9552654f5e4ab7ac7b4e1554ef897c0017c3be9ebf32a2c7afd333b6d7c14"), looks := false }, kinds := [], alts := [], laidByText := true, laidKinds := [.data], laidTests := true, laidLooks := .later }
def RegexTimesCardSaid : Prop := Claim7.holds Tryd.pinned (.plain (OpenSpec.ofChange regexTimesSpec)) regexTimesCard

/-- THE SECOND FORM's CARD OF 'barographlaw08.RegexParts'. -/
def regexPartsUptoCard : Claim7 := { stood := { row := regexPartsUptoRow, standIns := [], harness := (true, "55b9552654f5e4ab7ac7b4e1554ef897c0017c3be9ebf32a2c7afd333b6d7c14"), looks := false }, kinds := [], alts := [], laidByText := true, laidKinds := [.data], laidTests := true, laidLooks := .later }
def RegexPartsUptoCardSaid : Prop := Claim7.holds Tryd.pinned (.plain (OpenSpec.upto regexPartsSpec)) regexPartsUptoCard

/-- THE SECOND FORM's CARD OF 'barographlaw08.RegexWord'. -/
def regexWordUptoCard : Claim7 := { stood := { row := regexWordUptoRow, standIns := [], harness := (true, "55b9552654f5e4ab7ac7b4e1554ef897c0017c3be9ebf32a2c7afd333b6d7c14"), looks := false }, kinds := [], alts := [], laidByText := true, laidKinds := [.data], laidTests := true, laidLooks := .later }
def RegexWordUptoCardSaid : Prop := Claim7.holds Tryd.pinned (.plain (OpenSpec.upto regexWordSpec)) regexWordUptoCard

/-- THE SECOND FORM's CARD OF 'barographlaw08.RegexTimes'. -/
def regexTimesUptoCard : Claim7 := { stood := { row := regexTimesUptoRow, standIns := [], harness := (true, "55b9552654f5e4ab7ac7b4e1554ef897c0017c3be9ebf32a2c7afd333b6d7c14"), looks := false }, kinds := [], alts := [], laidByText := true, laidKinds := [.data], laidTests := true, laidLooks := .later }
def RegexTimesUptoCardSaid : Prop := Claim7.holds Tryd.pinned (.plain (OpenSpec.upto regexTimesSpec)) regexTimesUptoCard
end Rows
end Go.Proofs.YtgjdeilclimpdaaDoor
