/-
  What an act came to, held against another, marked; a row's lists marked. Lengths at most 1048576.
-/
import Derived.Test.YtmjbmpfpbaolnaaRowDoS
import Derived.Test.YtmjbmpfpbaolnaaMarkS2
namespace Go.Proofs.Ytmjbmpfpbaolnaa
open Go.RowKit
set_option linter.unusedVariables false
set_option maxRecDepth 100000

end Go.Proofs.Ytmjbmpfpbaolnaa
