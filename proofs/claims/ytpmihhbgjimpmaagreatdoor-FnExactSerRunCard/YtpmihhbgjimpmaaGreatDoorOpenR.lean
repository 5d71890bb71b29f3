/-
  A row (guards, adds, tells, stop) that came in as an argument, as the walks are told of it. No condition.
-/
import Derived.Test.YtpmihhbgjimpmaaGreatDoorOpenS
namespace Go.Proofs.YtpmihhbgjimpmaaGreatDoor
open Go.ChangeShapes Go.WideShapes Go.ChangeAt Go.RowKit Go.Joins Go.Deep
set_option linter.unusedVariables false
set_option maxRecDepth 100000

/-- A row as a value. -/
abbrev rowV (g : Option Addr) (G cg : Nat) (a : Option Addr) (A ca : Nat) (t : Option Addr) (T ct : Nat) (st : Bool) : Value := .agg #[.slice g G cg, .slice a A ca, .slice t T ct, .bool st]

end Go.Proofs.YtpmihhbgjimpmaaGreatDoor
