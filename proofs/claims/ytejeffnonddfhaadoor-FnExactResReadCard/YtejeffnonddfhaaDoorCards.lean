/-
  DERIVED. GIVEN WITH THE SEED: THE CARDS: each row of YtejeffnonddfhaaDoorRows.lean that lists a variable, with what it lists TIED to the program's text (the seventh form; the later family's looks); each row that meets fmt, with fmt's text TOLD by the authors' own Lean function (tested against real Go, not proved from fmt's source: count such statements apart). THE CARD IS WHAT COUNTS. Prove the row's statement (the work); the ties are given (YtejeffnonddfhaaDoorTie.lean); close each card by the builder's one call (the guide's Derived/Test/ToyasCard.lean, 'card_holds'). Laid BY PROGRAM, IN A SANDBOX (cutbox-door.mjs). By AI agents, Wed Nov 11 2026. No macro, syntax, notation, axiom, sorry.
-/
import Derived.Test.YtejeffnonddfhaaDoorRows
import GoSem.ClaimSeven
namespace Go.Proofs.YtejeffnonddfhaaDoor
namespace Rows

/-- THE TIED CARD OF 'laws.FnExactResText'. -/
def fnExactResTextCard : Claim7 := { stood := { row := fnExactResTextRow, standIns := [], harness := (true, "ddbf57d61cbf9727a6d152ad73ec5f4682903af8e5dd500e57cd17bacacd9af6"), looks := true }, kinds := [], alts := [], laidByText := true, laidKinds := [.data, .data, .data], laidTests := true, laidLooks := .later }
def FnExactResTextCardSaid : Prop := Claim7.holds Tryd.pinned (.plain (OpenSpec.ofChange fnExactResTextSpec)) fnExactResTextCard

/-- THE TIED CARD OF 'laws.FnExactResOk'. -/
def fnExactResOkCard : Claim7 := { stood := { row := fnExactResOkRow, standIns := [], harness := (true, "ddbf57d61cbf9727a6d152ad73ec5f4682903af8e5dd500e57cd17bacacd9af6"), looks := true }, kinds := [], alts := [], laidByText := true, laidKinds := [.data, .data, .data], laidTests := true, laidLooks := .later }
def FnExactResOkCardSaid : Prop := Claim7.holds Tryd.pinned (.plain (OpenSpec.ofChange fnExactResOkSpec)) fnExactResOkCard

/-- THE TIED CARD OF 'laws.FnExactCallText'. -/
def fnExactCallTextCard : Claim7 := { stood := { row := fnExactCallTextRow, standIns := [], harness := (true, "ddbf57d61cbf9727a6d152ad73ec5f4682903af8e5dd500e57cd17bacacd9af6"), looks := true }, kinds := [], alts := [], laidByText := true, laidKinds := [.data, .data, .data], laidTests := true, laidLooks := .later }
def FnExactCallTextCardSaid : Prop := Claim7.holds Tryd.pinned (.plain (OpenSpec.ofChange fnExactCallTextSpec)) fnExactCallTextCard

/-- THE TIED CARD OF 'laws.FnExactCallOk'. -/
def fnExactCallOkCard : Claim7 := { stood := { row := fnExactCallOkRow, standIns := [], harness := (true, "ddbf57d61cbf9727a6d152ad73ec5f4682903af8e5dd500e57cd17bacacd9af6"), looks := true }, kinds := [], alts := [], laidByText := true, laidKinds := [.data, .data, .data], laidTests := true, laidLooks := .later }
def FnExactCallOkCardSaid : Prop := Claim7.holds Tryd.pinned (.plain (OpenSpec.ofChange fnExactCallOkSpec)) fnExactCallOkCard

/-- THE TIED CARD OF 'laws.FnExactResRead'. -/
def fnExactResReadCard : Claim7 := { stood := { row := fnExactResReadRow, standIns := [], harness := (true, "ddbf57d61cbf9727a6d152ad73ec5f4682903af8e5dd500e57cd17bacacd9af6"), looks := true }, kinds := [], alts := [], laidByText := true, laidKinds := [.data, .data, .data, .data, .sentinel, .sentinel, .pinned], laidTests := true, laidLooks := .later }
def FnExactResReadCardSaid : Prop := Claim7.holds Tryd.pinned (.plain (OpenSpec.ofChange fnExactResReadSpec)) fnExactResReadCard

/-- THE SECOND FORM's CARD OF 'laws.FnExactResText'. -/
def fnExactResTextUptoCard : Claim7 := { stood := { row := fnExactResTextUptoRow, standIns := [], harness := (true, "ddbf57d61cbf9727a6d152ad73ec5f4682903af8e5dd500e57cd17bacacd9af6"), looks := true }, kinds := [], alts := [], laidByText := true, laidKinds := [.data, .data, .data], laidTests := true, laidLooks := .later }
def FnExactResTextUptoCardSaid : Prop := Claim7.holds Tryd.pinned (.plain (OpenSpec.upto fnExactResTextSpec)) fnExactResTextUptoCard

/-- THE SECOND FORM's CARD OF 'laws.FnExactResOk'. -/
def fnExactResOkUptoCard : Claim7 := { stood := { row := fnExactResOkUptoRow, standIns := [], harness := (true, "ddbf57d61cbf9727a6d152ad73ec5f4682903af8e5dd500e57cd17bacacd9af6"), looks := true }, kinds := [], alts := [], laidByText := true, laidKinds := [.data, .data, .data], laidTests := true, laidLooks := .later }
def FnExactResOkUptoCardSaid : Prop := Claim7.holds Tryd.pinned (.plain (OpenSpec.upto fnExactResOkSpec)) fnExactResOkUptoCard

/-- THE SECOND FORM's CARD OF 'laws.FnExactCallText'. -/
def fnExactCallTextUptoCard : Claim7 := { stood := { row := fnExactCallTextUptoRow, standIns := [], harness := (true, "ddbf57d61cbf9727a6d152ad73ec5f4682903af8e5dd500e57cd17bacacd9af6"), looks := true }, kinds := [], alts := [], laidByText := true, laidKinds := [.data, .data, .data], laidTests := true, laidLooks := .later }
def FnExactCallTextUptoCardSaid : Prop := Claim7.holds Tryd.pinned (.plain (OpenSpec.upto fnExactCallTextSpec)) fnExactCallTextUptoCard

/-- THE SECOND FORM's CARD OF 'laws.FnExactCallOk'. -/
def fnExactCallOkUptoCard : Claim7 := { stood := { row := fnExactCallOkUptoRow, standIns := [], harness := (true, "ddbf57d61cbf9727a6d152ad73ec5f4682903af8e5dd500e57cd17bacacd9af6"), looks := true }, kinds := [], alts := [], laidByText := true, laidKinds := [.data, .data, .data], laidTests := true, laidLooks := .later }
def FnExactCallOkUptoCardSaid : Prop := Claim7.holds Tryd.pinned (.plain (OpenSpec.upto fnExactCallOkSpec)) fnExactCallOkUptoCard

/-- THE SECOND FORM's CARD OF 'laws.FnExactResRead'. -/
def fnExactResReadUptoCard : Claim7 := { stood := { row := fnExactResReadUptoRow, standIns := [], harness := (true, "ddbf57d61cbf9727a6d152ad73ec5f4682903af8e5dd500e57cd17bacacd9af6"), looks := true }, kinds := [], alts := [], laidByText := true, laidKinds := [.data, .data, .data, .data, .sentinel, .sentinel, .pinned], laidTests := true, laidLooks := .later }
def FnExactResReadUptoCardSaid : Prop := Claim7.holds Tryd.pinned (.plain (OpenSpec.upto fnExactResReadSpec)) fnExactResReadUptoCard
end Rows
end Go.Proofs.YtejeffnonddfhaaDoor
