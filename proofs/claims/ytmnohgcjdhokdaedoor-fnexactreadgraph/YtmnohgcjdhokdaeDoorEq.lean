/-
  The laws' own comparison: two maps with the same places and arcs are told alike.
-/
import Derived.Test.YtmnohgcjdhokdaeDoorOkImpl
import Derived.Test.YtmnohgcjdhokdaeDoorEqA
set_option linter.unusedVariables false
set_option linter.unusedSimpArgs false
namespace Go.Proofs.YtmnohgcjdhokdaeDoor
open Go.RowKit
attribute [local go_sem ↓] Go.wp_at_zero Go.wp_at_succ

set_option maxHeartbeats 800000 in
theorem eqGraph_same (p : Int) (ao ao' : Option Addr) (n cap cap' : Nat) (F T G : Nat → Int) (hn : n ≤ 1048576) (w : World) (hr : Row w ao n F T G) (hr' : Row w ao' n F T G) :
    Calls Tryd.prog 9 #[.agg #[.int .i64 p, .slice ao n cap], .agg #[.int .i64 p, .slice ao' n cap']] w fun e w' => e = .returned (.bool true) ∧ Below w.heap.size w w' := by
  go_enter Tryd.func9, Tryd.ntmps9
  go_wp2_with (go_at_call 21; refine (eqArcS_same ao ao' n cap cap' F T G hn _ ((hr.alloc _).alloc _) ((hr'.alloc _).alloc _)).mono ?_; rintro e w1 ⟨rfl, hb1⟩)
  go_ret
  exact ⟨rfl, below_next (((Below.refl _ _).alloc (Nat.le_refl _) _).alloc (by simp) _) (Nat.le_refl _) hb1⟩

end Go.Proofs.YtmnohgcjdhokdaeDoor
