/-
  Helpers, merged: OpenMet.
-/
import Derived.Test.YteibbknpcgcjjaiGreatPack12
/-
  The cells of a metric as it is handed in.
-/
set_option linter.unusedVariables false
set_option linter.unusedSimpArgs false
namespace Go.Proofs.YteibbknpcgcjjaiGreat

theorem Tryz.cellsLMetric : Tryz.prog.cellsOf 30 = 2 := by kernel_rfl

end Go.Proofs.YteibbknpcgcjjaiGreat
