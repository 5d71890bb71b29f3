/-
  The text of a result, as the program writes it: the same. Lengths at most 1048576; the library's table of powers of ten is as its text lays it.
-/
import Derived.Test.YtmhhphpihnkfpaaDoorTwn
namespace Go.Proofs.YtmhhphpihnkfpaaDoor
open Go.RowKit
set_option linter.unusedVariables false
set_option maxRecDepth 100000

end Go.Proofs.YtmhhphpihnkfpaaDoor
