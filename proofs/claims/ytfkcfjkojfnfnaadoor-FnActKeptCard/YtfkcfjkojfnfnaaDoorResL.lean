/-
  What an act came to, held against another, marked; a row's lists marked. Lengths at most 1048576.
-/
import Derived.Test.YtfkcfjkojfnfnaaDoorRowDoS
import Derived.Test.YtfkcfjkojfnfnaaDoorMarkS2
namespace Go.Proofs.YtfkcfjkojfnfnaaDoor
open Go.RowKit
set_option linter.unusedVariables false
set_option maxRecDepth 100000

end Go.Proofs.YtfkcfjkojfnfnaaDoor
