/-
  DERIVED. GIVEN WITH THE SEED: THE CARDS: each row of YtfkcfjkojfnfnaaDoorRows.lean that lists a variable, with what it lists TIED to the program's text (the seventh form; the later family's looks); each row that meets fmt, with fmt's text TOLD by the authors' own Lean function (tested against real Go, not proved from fmt's source: count such statements apart). THE CARD IS WHAT COUNTS. Prove the row's statement (the work); the ties are given (YtfkcfjkojfnfnaaDoorTie.lean); close each card by the builder's one call (the guide's Derived/Test/ToyasCard.lean, 'card_holds'). Laid BY PROGRAM, IN A SANDBOX (cutbox-door.mjs). By AI agents, Wed Nov 11 2026. No macro, syntax, notation, axiom, sorry.
-/
import Derived.Test.YtfkcfjkojfnfnaaDoorRows
import GoSem.ClaimSeven
namespace Go.Proofs.YtfkcfjkojfnfnaaDoor
namespace Rows

/-- THE TIED CARD OF 'laws.FnFrmText'. -/
def fnFrmTextCard : Claim7 := { stood := { row := fnFrmTextRow, standIns := [], harness := (true, "7118e80b169cfa4de41c07828021dcf3cdd702d2a32cd407a40a6d66bf7b6ead"), looks := true }, kinds := [], alts := [], laidByText := true, laidKinds := [.data, .data, .data, .data, .sentinel, .sentinel, .pinned], laidTests := true, laidLooks := .later }
def FnFrmTextCardSaid : Prop := Claim7.holds Tryd.pinned (.plain (OpenSpec.ofChange fnFrmTextSpec)) fnFrmTextCard

/-- THE TIED CARD OF 'laws.FnResText'. -/
def fnResTextCard : Claim7 := { stood := { row := fnResTextRow, standIns := [], harness := (true, "7118e80b169cfa4de41c07828021dcf3cdd702d2a32cd407a40a6d66bf7b6ead"), looks := true }, kinds := [], alts := [], laidByText := true, laidKinds := [.data, .data, .data, .data, .sentinel, .sentinel, .pinned], laidTests := true, laidLooks := .later }
def FnResTextCardSaid : Prop := Claim7.holds Tryd.pinned (.plain (OpenSpec.ofChange fnResTextSpec)) fnResTextCard

/-- THE TIED CARD OF 'laws.FnActKept'. -/
def fnActKeptCard : Claim7 := { stood := { row := fnActKeptRow, standIns := [], harness := (true, "7118e80b169cfa4de41c07828021dcf3cdd702d2a32cd407a40a6d66bf7b6ead"), looks := true }, kinds := [], alts := [], laidByText := true, laidKinds := [.data, .data, .data], laidTests := true, laidLooks := .later }
def FnActKeptCardSaid : Prop := Claim7.holds Tryd.pinned (.plain (OpenSpec.ofChange fnActKeptSpec)) fnActKeptCard

/-- THE TIED CARD OF 'laws.FnCallOk'. -/
def fnCallOkCard : Claim7 := { stood := { row := fnCallOkRow, standIns := [], harness := (true, "7118e80b169cfa4de41c07828021dcf3cdd702d2a32cd407a40a6d66bf7b6ead"), looks := true }, kinds := [], alts := [], laidByText := true, laidKinds := [.data, .data, .data], laidTests := true, laidLooks := .later }
def FnCallOkCardSaid : Prop := Claim7.holds Tryd.pinned (.plain (OpenSpec.ofChange fnCallOkSpec)) fnCallOkCard

/-- THE SECOND FORM's CARD OF 'laws.FnFrmText'. -/
def fnFrmTextUptoCard : Claim7 := { stood := { row := fnFrmTextUptoRow, standIns := [], harness := (true, "7118e80b169cfa4de41c07828021dcf3cdd702d2a32cd407a40a6d66bf7b6ead"), looks := true }, kinds := [], alts := [], laidByText := true, laidKinds := [.data, .data, .data, .data, .sentinel, .sentinel, .pinned], laidTests := true, laidLooks := .later }
def FnFrmTextUptoCardSaid : Prop := Claim7.holds Tryd.pinned (.plain (OpenSpec.upto fnFrmTextSpec)) fnFrmTextUptoCard

/-- THE SECOND FORM's CARD OF 'laws.FnResText'. -/
def fnResTextUptoCard : Claim7 := { stood := { row := fnResTextUptoRow, standIns := [], harness := (true, "7118e80b169cfa4de41c07828021dcf3cdd702d2a32cd407a40a6d66bf7b6ead"), looks := true }, kinds := [], alts := [], laidByText := true, laidKinds := [.data, .data, .data, .data, .sentinel, .sentinel, .pinned], laidTests := true, laidLooks := .later }
def FnResTextUptoCardSaid : Prop := Claim7.holds Tryd.pinned (.plain (OpenSpec.upto fnResTextSpec)) fnResTextUptoCard

/-- THE SECOND FORM's CARD OF 'laws.FnActKept'. -/
def fnActKeptUptoCard : Claim7 := { stood := { row := fnActKeptUptoRow, standIns := [], harness := (true, "7118e80b169cfa4de41c07828021dcf3cdd702d2a32cd407a40a6d66bf7b6ead"), looks := true }, kinds := [], alts := [], laidByText := true, laidKinds := [.data, .data, .data], laidTests := true, laidLooks := .later }
def FnActKeptUptoCardSaid : Prop := Claim7.holds Tryd.pinned (.plain (OpenSpec.upto fnActKeptSpec)) fnActKeptUptoCard

/-- THE SECOND FORM's CARD OF 'laws.FnCallOk'. -/
def fnCallOkUptoCard : Claim7 := { stood := { row := fnCallOkUptoRow, standIns := [], harness := (true, "7118e80b169cfa4de41c07828021dcf3cdd702d2a32cd407a40a6d66bf7b6ead"), looks := true }, kinds := [], alts := [], laidByText := true, laidKinds := [.data, .data, .data], laidTests := true, laidLooks := .later }
def FnCallOkUptoCardSaid : Prop := Claim7.holds Tryd.pinned (.plain (OpenSpec.upto fnCallOkSpec)) fnCallOkUptoCard
end Rows
end Go.Proofs.YtfkcfjkojfnfnaaDoor
