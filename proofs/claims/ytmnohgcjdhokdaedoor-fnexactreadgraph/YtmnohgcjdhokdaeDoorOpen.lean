/-
  What the reading of an argument says of its memory: a list of arcs that came in lies behind its address, three numbers an arc.
-/
import Derived.Test.YtmnohgcjdhokdaeDoorBase
import Derived.Test.YtmnohgcjdhokdaeDoorEq
import Derived.Test.YtmnohgcjdhokdaeDoorCopy
import Derived.Test.YtmnohgcjdhokdaeDoorOpenA
set_option linter.unusedVariables false
set_option linter.unusedSimpArgs false
namespace Go.Proofs.YtmnohgcjdhokdaeDoor
open Go.ChangeShapes Go.WideShapes Go.ChangeAt Go.RowKit Go.Deep Go.Joins

theorem Tryd.cellsLGraph : Tryd.prog.cellsOf 24 = 2 := by kernel_rfl

end Go.Proofs.YtmnohgcjdhokdaeDoor
