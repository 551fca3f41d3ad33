/-
  What Route answers, as a list in memory; how long it can be.
-/
import Derived.Test.YtokaechbmnbbiabGreatRtIP
set_option linter.unusedVariables false
set_option linter.unusedSimpArgs false
namespace Go.Proofs.YtokaechbmnbbiabGreat
open Go.RowKit

end Go.Proofs.YtokaechbmnbbiabGreat
