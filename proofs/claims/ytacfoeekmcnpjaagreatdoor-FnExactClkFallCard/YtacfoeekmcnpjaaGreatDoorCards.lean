/-
  DERIVED. GIVEN WITH THE SEED: THE CARDS: each row of YtacfoeekmcnpjaaGreatDoorRows.lean that lists a variable, with what it lists TIED to the program's text (the seventh form; the later family's looks); each row that meets fmt, with fmt's text TOLD by the authors' own Lean function (tested against real Go, not proved from fmt's source: count such statements apart). THE CARD IS WHAT COUNTS. Prove the row's statement (the work); the ties are given (YtacfoeekmcnpjaaGreatDoorTie.lean); close each card by the builder's one call (the guide's Derived/Test/ToyasCard.lean, 'card_holds'). Laid BY PROGRAM, IN A SANDBOX (cutbox-door.mjs). By AI agents, Wed Nov 11 2026. No macro, syntax, notation, axiom, sorry.
-/
import Derived.Test.YtacfoeekmcnpjaaGreatDoorRows
import GoSem.ClaimSeven
namespace Go.Proofs.YtacfoeekmcnpjaaGreatDoor
namespace Rows

/-- THE TIED CARD OF 'laws.FnExactWldOk'. -/
def fnExactWldOkCard : Claim7 := { stood := { row := fnExactWldOkRow, standIns := [], harness := (true, "38e13212669aa4bda0eaaba21ba22e0dbfa00a6b251f85fde4f7e56da0619ac0"), looks := true }, kinds := [], alts := [], laidByText := true, laidKinds := [.data, .data, .data], laidTests := true, laidLooks := .later }
def FnExactWldOkCardSaid : Prop := Claim7.holds Tryz.pinned (.plain (OpenSpec.ofChange fnExactWldOkSpec)) fnExactWldOkCard

/-- THE TIED CARD OF 'laws.FnExactWldVals'. -/
def fnExactWldValsCard : Claim7 := { stood := { row := fnExactWldValsRow, standIns := [], harness := (true, "38e13212669aa4bda0eaaba21ba22e0dbfa00a6b251f85fde4f7e56da0619ac0"), looks := true }, kinds := [], alts := [], laidByText := true, laidKinds := [.data, .data, .data], laidTests := true, laidLooks := .later }
def FnExactWldValsCardSaid : Prop := Claim7.holds Tryz.pinned (.plain (OpenSpec.ofChange fnExactWldValsSpec)) fnExactWldValsCard

/-- THE TIED CARD OF 'laws.FnExactWldRest'. -/
def fnExactWldRestCard : Claim7 := { stood := { row := fnExactWldRestRow, standIns := [], harness := (true, "38e13212669aa4bda0eaaba21ba22e0dbfa00a6b251f85fde4f7e56da0619ac0"), looks := true }, kinds := [], alts := [], laidByText := true, laidKinds := [.data, .data, .data], laidTests := true, laidLooks := .later }
def FnExactWldRestCardSaid : Prop := Claim7.holds Tryz.pinned (.plain (OpenSpec.ofChange fnExactWldRestSpec)) fnExactWldRestCard

/-- THE TIED CARD OF 'laws.FnExactSerSame'. -/
def fnExactSerSameCard : Claim7 := { stood := { row := fnExactSerSameRow, standIns := [], harness := (true, "38e13212669aa4bda0eaaba21ba22e0dbfa00a6b251f85fde4f7e56da0619ac0"), looks := true }, kinds := [], alts := [], laidByText := true, laidKinds := [.data, .data, .data], laidTests := true, laidLooks := .later }
def FnExactSerSameCardSaid : Prop := Claim7.holds Tryz.pinned (.plain (OpenSpec.ofChange fnExactSerSameSpec)) fnExactSerSameCard

/-- THE TIED CARD OF 'laws.FnExactWldBehind'. -/
def fnExactWldBehindCard : Claim7 := { stood := { row := fnExactWldBehindRow, standIns := [], harness := (true, "38e13212669aa4bda0eaaba21ba22e0dbfa00a6b251f85fde4f7e56da0619ac0"), looks := true }, kinds := [], alts := [], laidByText := true, laidKinds := [.data, .data, .data], laidTests := true, laidLooks := .later }
def FnExactWldBehindCardSaid : Prop := Claim7.holds Tryz.pinned (.plain (OpenSpec.ofChange fnExactWldBehindSpec)) fnExactWldBehindCard

/-- THE TIED CARD OF 'laws.FnExactClkFall'. -/
def fnExactClkFallCard : Claim7 := { stood := { row := fnExactClkFallRow, standIns := [], harness := (true, "38e13212669aa4bda0eaaba21ba22e0dbfa00a6b251f85fde4f7e56da0619ac0"), looks := true }, kinds := [], alts := [], laidByText := true, laidKinds := [.data, .data, .data], laidTests := true, laidLooks := .later }
def FnExactClkFallCardSaid : Prop := Claim7.holds Tryz.pinned (.plain (OpenSpec.ofChange fnExactClkFallSpec)) fnExactClkFallCard

/-- THE SECOND FORM's CARD OF 'laws.FnExactWldOk'. -/
def fnExactWldOkUptoCard : Claim7 := { stood := { row := fnExactWldOkUptoRow, standIns := [], harness := (true, "38e13212669aa4bda0eaaba21ba22e0dbfa00a6b251f85fde4f7e56da0619ac0"), looks := true }, kinds := [], alts := [], laidByText := true, laidKinds := [.data, .data, .data], laidTests := true, laidLooks := .later }
def FnExactWldOkUptoCardSaid : Prop := Claim7.holds Tryz.pinned (.plain (OpenSpec.upto fnExactWldOkSpec)) fnExactWldOkUptoCard

/-- THE SECOND FORM's CARD OF 'laws.FnExactWldVals'. -/
def fnExactWldValsUptoCard : Claim7 := { stood := { row := fnExactWldValsUptoRow, standIns := [], harness := (true, "38e13212669aa4bda0eaaba21ba22e0dbfa00a6b251f85fde4f7e56da0619ac0"), looks := true }, kinds := [], alts := [], laidByText := true, laidKinds := [.data, .data, .data], laidTests := true, laidLooks := .later }
def FnExactWldValsUptoCardSaid : Prop := Claim7.holds Tryz.pinned (.plain (OpenSpec.upto fnExactWldValsSpec)) fnExactWldValsUptoCard

/-- THE SECOND FORM's CARD OF 'laws.FnExactWldRest'. -/
def fnExactWldRestUptoCard : Claim7 := { stood := { row := fnExactWldRestUptoRow, standIns := [], harness := (true, "38e13212669aa4bda0eaaba21ba22e0dbfa00a6b251f85fde4f7e56da0619ac0"), looks := true }, kinds := [], alts := [], laidByText := true, laidKinds := [.data, .data, .data], laidTests := true, laidLooks := .later }
def FnExactWldRestUptoCardSaid : Prop := Claim7.holds Tryz.pinned (.plain (OpenSpec.upto fnExactWldRestSpec)) fnExactWldRestUptoCard

/-- THE SECOND FORM's CARD OF 'laws.FnExactSerSame'. -/
def fnExactSerSameUptoCard : Claim7 := { stood := { row := fnExactSerSameUptoRow, standIns := [], harness := (true, "38e13212669aa4bda0eaaba21ba22e0dbfa00a6b251f85fde4f7e56da0619ac0"), looks := true }, kinds := [], alts := [], laidByText := true, laidKinds := [.data, .data, .data], laidTests := true, laidLooks := .later }
def FnExactSerSameUptoCardSaid : Prop := Claim7.holds Tryz.pinned (.plain (OpenSpec.upto fnExactSerSameSpec)) fnExactSerSameUptoCard

/-- THE SECOND FORM's CARD OF 'laws.FnExactWldBehind'. -/
def fnExactWldBehindUptoCard : Claim7 := { stood := { row := fnExactWldBehindUptoRow, standIns := [], harness := (true, "38e13212669aa4bda0eaaba21ba22e0dbfa00a6b251f85fde4f7e56da0619ac0"), looks := true }, kinds := [], alts := [], laidByText := true, laidKinds := [.data, .data, .data], laidTests := true, laidLooks := .later }
def FnExactWldBehindUptoCardSaid : Prop := Claim7.holds Tryz.pinned (.plain (OpenSpec.upto fnExactWldBehindSpec)) fnExactWldBehindUptoCard

/-- THE SECOND FORM's CARD OF 'laws.FnExactClkFall'. -/
def fnExactClkFallUptoCard : Claim7 := { stood := { row := fnExactClkFallUptoRow, standIns := [], harness := (true, "38e13212669aa4bda0eaaba21ba22e0dbfa00a6b251f85fde4f7e56da0619ac0"), looks := true }, kinds := [], alts := [], laidByText := true, laidKinds := [.data, .data, .data], laidTests := true, laidLooks := .later }
def FnExactClkFallUptoCardSaid : Prop := Claim7.holds Tryz.pinned (.plain (OpenSpec.upto fnExactClkFallSpec)) fnExactClkFallUptoCard
end Rows
end Go.Proofs.YtacfoeekmcnpjaaGreatDoor
