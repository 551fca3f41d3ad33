/-
  Two commands held against each other.
-/
import Derived.Test.YtmnohgcjdhokdajDoorEqA
import Derived.Test.YtmnohgcjdhokdajDoorBase
import Derived.Test.YtmnohgcjdhokdajDoorVh
set_option linter.unusedVariables false
set_option linter.unusedSimpArgs false
namespace Go.Proofs.YtmnohgcjdhokdajDoor
open Go.ChangeShapes Go.WideShapes Go.ChangeAt Go.RowKit Go.Deep Go.Joins
attribute [local go_sem ↓] Go.wp_at_zero Go.wp_at_succ

/-- A box of a command. -/
def cm4 (K : Int) (s : Value) (a b : Int) (j : Nat) : Value := if j = 0 then .int .i64 K else if j = 1 then s else if j = 2 then .int .i64 a else .int .i64 b
theorem cm4_new (w : World) (K : Int) (s : Value) (a b : Int) (t : TypeId) : VHas (w.alloc (.cells #[.int .i64 K, s, .int .i64 a, .int .i64 b] t)) w.heap.size t 4 (cm4 K s a b) :=
  ⟨_, Go.Deep.blk_alloc_new _ _, by simp, fun j hj => by
    have : j = 0 ∨ j = 1 ∨ j = 2 ∨ j = 3 := by omega
    rcases this with rfl | rfl | rfl | rfl <;> rfl⟩
set_option maxHeartbeats 1000000 in
theorem eqCommand_same (K : Int) (ao ao' : Option Addr) (n cap cap' : Nat) (a b : Int) (F T G : Nat → Int) (hn : n ≤ 1048576) (w : World) (hr : Row w ao n F T G) (hr' : Row w ao' n F T G) :
    Calls Tryd.prog 8 #[.agg #[.int .i64 K, .slice ao n cap, .int .i64 a, .int .i64 b], .agg #[.int .i64 K, .slice ao' n cap', .int .i64 a, .int .i64 b]] w fun e w' => e = .returned (.bool true) ∧ Below w.heap.size w w' := by
  have hA : Below w.heap.size w ((w.alloc (.cells #[.int .i64 K, .slice ao n cap, .int .i64 a, .int .i64 b] 29)).alloc (.cells #[.int .i64 K, .slice ao' n cap', .int .i64 a, .int .i64 b] 29)) := ((Below.refl _ _).alloc (Nat.le_refl _) _).alloc (by simp) _
  have v1 := (cm4_new w K (.slice ao n cap) a b 29).alloc (.cells #[.int .i64 K, .slice ao' n cap', .int .i64 a, .int .i64 b] 29)
  have v2 := cm4_new (w.alloc (.cells #[.int .i64 K, .slice ao n cap, .int .i64 a, .int .i64 b] 29)) K (.slice ao' n cap') a b 29
  have h1 := hr.below hA (Nat.le_refl _)
  have h2 := hr'.below hA (Nat.le_refl _)
  go_enter Tryd.func8, Tryd.ntmps8
  go_wp2_with fail
  refine (eqArcS_same ao ao' n cap cap' F T G hn _ h1 h2).mono ?_
  rintro e w1 ⟨rfl, hb1⟩
  replace v1 := v1.next hb1
  replace v2 := v2.next hb1
  simp only [World.size_alloc] at v2
  have p2 : w1.cell? ⟨w.heap.size, 2, none⟩ = some (.int .i64 a) := v1.cell (j := 2) (by omega)
  have p3 : w1.cell? ⟨w.heap.size, 3, none⟩ = some (.int .i64 b) := v1.cell (j := 3) (by omega)
  have q2 : w1.cell? ⟨w.heap.size + 1, 2, none⟩ = some (.int .i64 a) := v2.cell (j := 2) (by omega)
  have q3 : w1.cell? ⟨w.heap.size + 1, 3, none⟩ = some (.int .i64 b) := v2.cell (j := 3) (by omega)
  go_wp2
  go_ret
  exact ⟨rfl, below_next hA (Nat.le_refl _) hb1⟩

end Go.Proofs.YtmnohgcjdhokdajDoor
