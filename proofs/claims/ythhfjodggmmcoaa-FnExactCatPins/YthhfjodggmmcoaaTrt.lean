/-
  Treaties: the size, a copy, one held against another, an argument that is one. Lengths at most 1048576 where one is copied.
-/
import Derived.Test.YthhfjodggmmcoaaForms
import Derived.Test.YthhfjodggmmcoaaOpen
namespace Go.Proofs.Ythhfjodggmmcoaa
open Go.ChangeShapes Go.WideShapes Go.ChangeAt Go.RowKit Go.Joins
set_option linter.unusedVariables false
set_option maxRecDepth 100000

/-- A treaty as a value. -/
abbrev treV (a : Option Addr) (n cap : Nat) (c : Option Addr) (m cap' : Nat) : Value := .agg #[.slice a n cap, .slice c m cap']

end Go.Proofs.Ythhfjodggmmcoaa
