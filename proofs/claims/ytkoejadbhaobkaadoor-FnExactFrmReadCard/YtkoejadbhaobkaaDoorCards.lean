/-
  DERIVED. GIVEN WITH THE SEED: THE CARDS: each row of YtkoejadbhaobkaaDoorRows.lean that lists a variable, with what it lists TIED to the program's text (the seventh form; the later family's looks); each row that meets fmt, with fmt's text TOLD by the authors' own Lean function (tested against real Go, not proved from fmt's source: count such statements apart). THE CARD IS WHAT COUNTS. Prove the row's statement (the work); the ties are given (YtkoejadbhaobkaaDoorTie.lean); close each card by the builder's one call (the guide's Derived/Test/ToyasCard.lean, 'card_holds'). Laid BY PROGRAM, IN A SANDBOX (cutbox-door.mjs). By AI agents, Wed Nov 11 2026. No macro, syntax, notation, axiom, sorry.
-/
import Derived.Test.YtkoejadbhaobkaaDoorRows
import GoSem.ClaimSeven
namespace Go.Proofs.YtkoejadbhaobkaaDoor
namespace Rows

/-- THE TIED CARD OF 'laws.FnExactFrmText'. -/
def fnExactFrmTextCard : Claim7 := { stood := { row := fnExactFrmTextRow, standIns := [], harness := (true, "68c53dc202999006451729ad8457070154fb7f468847a4485fadd5f0461af6bd"), looks := true }, kinds := [], alts := [], laidByText := true, laidKinds := [.data, .data, .data], laidTests := true, laidLooks := .later }
def FnExactFrmTextCardSaid : Prop := Claim7.holds Tryd.pinned (.plain (OpenSpec.ofChange fnExactFrmTextSpec)) fnExactFrmTextCard

/-- THE TIED CARD OF 'laws.FnExactResText'. -/
def fnExactResTextCard : Claim7 := { stood := { row := fnExactResTextRow, standIns := [], harness := (true, "68c53dc202999006451729ad8457070154fb7f468847a4485fadd5f0461af6bd"), looks := true }, kinds := [], alts := [], laidByText := true, laidKinds := [.data, .data, .data], laidTests := true, laidLooks := .later }
def FnExactResTextCardSaid : Prop := Claim7.holds Tryd.pinned (.plain (OpenSpec.ofChange fnExactResTextSpec)) fnExactResTextCard

/-- THE TIED CARD OF 'laws.FnExactFrmRead'. -/
def fnExactFrmReadCard : Claim7 := { stood := { row := fnExactFrmReadRow, standIns := [], harness := (true, "68c53dc202999006451729ad8457070154fb7f468847a4485fadd5f0461af6bd"), looks := true }, kinds := [], alts := [], laidByText := true, laidKinds := [.data, .data, .data, .data, .sentinel, .sentinel, .pinned], laidTests := true, laidLooks := .later }
def FnExactFrmReadCardSaid : Prop := Claim7.holds Tryd.pinned (.plain (OpenSpec.ofChange fnExactFrmReadSpec)) fnExactFrmReadCard

/-- THE TIED CARD OF 'laws.FnExactResRead'. -/
def fnExactResReadCard : Claim7 := { stood := { row := fnExactResReadRow, standIns := [], harness := (true, "68c53dc202999006451729ad8457070154fb7f468847a4485fadd5f0461af6bd"), looks := true }, kinds := [], alts := [], laidByText := true, laidKinds := [.data, .data, .data, .data, .sentinel, .sentinel, .pinned], laidTests := true, laidLooks := .later }
def FnExactResReadCardSaid : Prop := Claim7.holds Tryd.pinned (.plain (OpenSpec.ofChange fnExactResReadSpec)) fnExactResReadCard

/-- THE SECOND FORM's CARD OF 'laws.FnExactFrmText'. -/
def fnExactFrmTextUptoCard : Claim7 := { stood := { row := fnExactFrmTextUptoRow, standIns := [], harness := (true, "68c53dc202999006451729ad8457070154fb7f468847a4485fadd5f0461af6bd"), looks := true }, kinds := [], alts := [], laidByText := true, laidKinds := [.data, .data, .data], laidTests := true, laidLooks := .later }
def FnExactFrmTextUptoCardSaid : Prop := Claim7.holds Tryd.pinned (.plain (OpenSpec.upto fnExactFrmTextSpec)) fnExactFrmTextUptoCard

/-- THE SECOND FORM's CARD OF 'laws.FnExactResText'. -/
def fnExactResTextUptoCard : Claim7 := { stood := { row := fnExactResTextUptoRow, standIns := [], harness := (true, "68c53dc202999006451729ad8457070154fb7f468847a4485fadd5f0461af6bd"), looks := true }, kinds := [], alts := [], laidByText := true, laidKinds := [.data, .data, .data], laidTests := true, laidLooks := .later }
def FnExactResTextUptoCardSaid : Prop := Claim7.holds Tryd.pinned (.plain (OpenSpec.upto fnExactResTextSpec)) fnExactResTextUptoCard

/-- THE SECOND FORM's CARD OF 'laws.FnExactFrmRead'. -/
def fnExactFrmReadUptoCard : Claim7 := { stood := { row := fnExactFrmReadUptoRow, standIns := [], harness := (true, "68c53dc202999006451729ad8457070154fb7f468847a4485fadd5f0461af6bd"), looks := true }, kinds := [], alts := [], laidByText := true, laidKinds := [.data, .data, .data, .data, .sentinel, .sentinel, .pinned], laidTests := true, laidLooks := .later }
def FnExactFrmReadUptoCardSaid : Prop := Claim7.holds Tryd.pinned (.plain (OpenSpec.upto fnExactFrmReadSpec)) fnExactFrmReadUptoCard

/-- THE SECOND FORM's CARD OF 'laws.FnExactResRead'. -/
def fnExactResReadUptoCard : Claim7 := { stood := { row := fnExactResReadUptoRow, standIns := [], harness := (true, "68c53dc202999006451729ad8457070154fb7f468847a4485fadd5f0461af6bd"), looks := true }, kinds := [], alts := [], laidByText := true, laidKinds := [.data, .data, .data, .data, .sentinel, .sentinel, .pinned], laidTests := true, laidLooks := .later }
def FnExactResReadUptoCardSaid : Prop := Claim7.holds Tryd.pinned (.plain (OpenSpec.upto fnExactResReadSpec)) fnExactResReadUptoCard
end Rows
end Go.Proofs.YtkoejadbhaobkaaDoor
