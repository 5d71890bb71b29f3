/-
  DERIVED. GIVEN WITH THE SEED: THE CARDS: each row of YtpmihhbgjimpmaaGreatDoorRows.lean that lists a variable, with what it lists TIED to the program's text (the seventh form; the later family's looks); each row that meets fmt, with fmt's text TOLD by the authors' own Lean function (tested against real Go, not proved from fmt's source: count such statements apart). THE CARD IS WHAT COUNTS. Prove the row's statement (the work); the ties are given (YtpmihhbgjimpmaaGreatDoorTie.lean); close each card by the builder's one call (the guide's Derived/Test/ToyasCard.lean, 'card_holds'). Laid BY PROGRAM, IN A SANDBOX (cutbox-door.mjs). By AI agents, Wed Nov 11 2026. No macro, syntax, notation, axiom, sorry.
-/
import Derived.Test.YtpmihhbgjimpmaaGreatDoorRows
import GoSem.ClaimSeven
namespace Go.Proofs.YtpmihhbgjimpmaaGreatDoor
namespace Rows

/-- THE TIED CARD OF 'laws.FnSitNew'. -/
def fnSitNewCard : Claim7 := { stood := { row := fnSitNewRow, standIns := [], harness := (true, "9d1f53379e71e188fbe47d4682ea93e13e11eb77b8dab412d3c32d5c77361005"), looks := true }, kinds := [], alts := [], laidByText := true, laidKinds := [.data, .data, .data], laidTests := true, laidLooks := .later }
def FnSitNewCardSaid : Prop := Claim7.holds Tryz.pinned (.plain (OpenSpec.ofChange fnSitNewSpec)) fnSitNewCard

/-- THE TIED CARD OF 'laws.FnSerRun'. -/
def fnSerRunCard : Claim7 := { stood := { row := fnSerRunRow, standIns := [], harness := (true, "9d1f53379e71e188fbe47d4682ea93e13e11eb77b8dab412d3c32d5c77361005"), looks := true }, kinds := [], alts := [], laidByText := true, laidKinds := [.data, .data, .data], laidTests := true, laidLooks := .later }
def FnSerRunCardSaid : Prop := Claim7.holds Tryz.pinned (.plain (OpenSpec.ofChange fnSerRunSpec)) fnSerRunCard

/-- THE TIED CARD OF 'laws.FnExactSerRun'. -/
def fnExactSerRunCard : Claim7 := { stood := { row := fnExactSerRunRow, standIns := [], harness := (true, "9d1f53379e71e188fbe47d4682ea93e13e11eb77b8dab412d3c32d5c77361005"), looks := true }, kinds := [], alts := [], laidByText := true, laidKinds := [.data, .data, .data], laidTests := true, laidLooks := .later }
def FnExactSerRunCardSaid : Prop := Claim7.holds Tryz.pinned (.plain (OpenSpec.ofChange fnExactSerRunSpec)) fnExactSerRunCard

/-- THE SECOND FORM's CARD OF 'laws.FnSitNew'. -/
def fnSitNewUptoCard : Claim7 := { stood := { row := fnSitNewUptoRow, standIns := [], harness := (true, "9d1f53379e71e188fbe47d4682ea93e13e11eb77b8dab412d3c32d5c77361005"), looks := true }, kinds := [], alts := [], laidByText := true, laidKinds := [.data, .data, .data], laidTests := true, laidLooks := .later }
def FnSitNewUptoCardSaid : Prop := Claim7.holds Tryz.pinned (.plain (OpenSpec.upto fnSitNewSpec)) fnSitNewUptoCard

/-- THE SECOND FORM's CARD OF 'laws.FnSerRun'. -/
def fnSerRunUptoCard : Claim7 := { stood := { row := fnSerRunUptoRow, standIns := [], harness := (true, "9d1f53379e71e188fbe47d4682ea93e13e11eb77b8dab412d3c32d5c77361005"), looks := true }, kinds := [], alts := [], laidByText := true, laidKinds := [.data, .data, .data], laidTests := true, laidLooks := .later }
def FnSerRunUptoCardSaid : Prop := Claim7.holds Tryz.pinned (.plain (OpenSpec.upto fnSerRunSpec)) fnSerRunUptoCard

/-- THE SECOND FORM's CARD OF 'laws.FnExactSerRun'. -/
def fnExactSerRunUptoCard : Claim7 := { stood := { row := fnExactSerRunUptoRow, standIns := [], harness := (true, "9d1f53379e71e188fbe47d4682ea93e13e11eb77b8dab412d3c32d5c77361005"), looks := true }, kinds := [], alts := [], laidByText := true, laidKinds := [.data, .data, .data], laidTests := true, laidLooks := .later }
def FnExactSerRunUptoCardSaid : Prop := Claim7.holds Tryz.pinned (.plain (OpenSpec.upto fnExactSerRunSpec)) fnExactSerRunUptoCard
end Rows
end Go.Proofs.YtpmihhbgjimpmaaGreatDoor
