/-
  The exact law's helpers for a command: its size, a copy, whether two are alike.
-/
import Derived.Test.YtmnohgcjdhokdajDoorCmdP
import Derived.Test.YtmnohgcjdhokdajDoorCopyA
import Derived.Test.YtmnohgcjdhokdajDoorEqA
import Derived.Test.YtmnohgcjdhokdajDoorOpenA
import Derived.Test.YtmnohgcjdhokdajDoorVh
import Derived.Test.YtmnohgcjdhokdajDoorCmdEq
set_option linter.unusedVariables false
set_option linter.unusedSimpArgs false
namespace Go.Proofs.YtmnohgcjdhokdajDoor
open Go.ChangeShapes Go.WideShapes Go.ChangeAt Go.RowKit Go.Deep Go.Joins
attribute [local go_sem ↓] Go.wp_at_zero Go.wp_at_succ

theorem szCommand_in (K : Int) (ao : Option Addr) (n cap : Nat) (a b : Int) (l : Int) (h0 : (n : Int) ≤ l) (hl : l ≤ 1048576) (w : World) :
    Calls Tryd.prog 4 #[.agg #[.int .i64 K, .slice ao n cap, .int .i64 a, .int .i64 b], .int .i64 l] w fun e w' => e = .returned (.int .i64 (l - n)) ∧ Below w.heap.size w w' := by
  go_enter Tryd.func4, Tryd.ntmps4
  go_wp2_with (go_at_call 9; refine (szArcS_in ao n cap l h0 hl _).mono ?_; rintro e w1 ⟨rfl, rfl⟩)
  go_ret
  exact ⟨rfl, (Below.refl _ _).alloc (Nat.le_refl _) _⟩
theorem szCommand_out (K : Int) (ao : Option Addr) (n cap : Nat) (a b : Int) (l : Int) (h0 : l < (n : Int)) (h1 : 0 ≤ l) (hl : l ≤ 1048576) (hn : n ≤ 9223372036854775807) (w : World) :
    Calls Tryd.prog 4 #[.agg #[.int .i64 K, .slice ao n cap, .int .i64 a, .int .i64 b], .int .i64 l] w fun e w' => e = .returned (.int .i64 (-1)) ∧ Below w.heap.size w w' := by
  go_enter Tryd.func4, Tryd.ntmps4
  go_wp2_with (go_at_call 9; refine (szArcS_out ao n cap l h0 h1 hl hn _).mono ?_; rintro e w1 ⟨rfl, rfl⟩)
  go_ret
  exact ⟨rfl, (Below.refl _ _).alloc (Nat.le_refl _) _⟩
set_option maxHeartbeats 1000000 in
/-- A copy of a command: its arcs in new memory of the call's own. -/
theorem toCommand_any (K : Int) (ao : Option Addr) (n cap : Nat) (a b : Int) (F T G : Nat → Int) (hn : n ≤ 1048576) (w : World) (hr : Row w ao n F T G) :
    Calls Tryd.prog 6 #[.agg #[.int .i64 K, .slice ao n cap, .int .i64 a, .int .i64 b]] w fun e w' => ∃ bN, e = .returned (.agg #[.int .i64 K, .slice (some ⟨bN, 0, none⟩) n n, .int .i64 a, .int .i64 b]) ∧ w.heap.size ≤ bN ∧ Own w' bN n (ar F T G) ∧ Below w.heap.size w w' := by
  have hA : Below w.heap.size w (((w.alloc (.cells #[.int .i64 K, .slice ao n cap, .int .i64 a, .int .i64 b] 24)).alloc (.cells #[.int .i64 0, .slice none 0 0, .int .i64 0, .int .i64 0] 29)).alloc (.cells #[.int .i64 K, .slice none 0 0, .int .i64 0, .int .i64 0] 29)) := (((Below.refl _ _).alloc (Nat.le_refl _) _).alloc (by simp) _).alloc (by simp; omega) _
  have v1 : VHas (((w.alloc (.cells #[.int .i64 K, .slice ao n cap, .int .i64 a, .int .i64 b] 24)).alloc (.cells #[.int .i64 0, .slice none 0 0, .int .i64 0, .int .i64 0] 29)).alloc (.cells #[.int .i64 K, .slice none 0 0, .int .i64 0, .int .i64 0] 29)) w.heap.size 24 4 (cm4 K (.slice ao n cap) a b) := ((cm4_new w K (.slice ao n cap) a b 24).alloc _).alloc _
  have v2 : VHas (((w.alloc (.cells #[.int .i64 K, .slice ao n cap, .int .i64 a, .int .i64 b] 24)).alloc (.cells #[.int .i64 0, .slice none 0 0, .int .i64 0, .int .i64 0] 29)).alloc (.cells #[.int .i64 K, .slice none 0 0, .int .i64 0, .int .i64 0] 29)) (w.heap.size + 1) 29 4 (cm4 0 (.slice none 0 0) 0 0) := by simpa only [World.size_alloc] using (cm4_new (w.alloc (.cells #[.int .i64 K, .slice ao n cap, .int .i64 a, .int .i64 b] 24)) 0 (.slice none 0 0) 0 0 29).alloc _
  have v3 : VHas (((w.alloc (.cells #[.int .i64 K, .slice ao n cap, .int .i64 a, .int .i64 b] 24)).alloc (.cells #[.int .i64 0, .slice none 0 0, .int .i64 0, .int .i64 0] 29)).alloc (.cells #[.int .i64 K, .slice none 0 0, .int .i64 0, .int .i64 0] 29)) (w.heap.size + 1 + 1) 29 4 (cm4 K (.slice none 0 0) 0 0) := by simpa only [World.size_alloc] using cm4_new ((w.alloc (.cells #[.int .i64 K, .slice ao n cap, .int .i64 a, .int .i64 b] 24)).alloc (.cells #[.int .i64 0, .slice none 0 0, .int .i64 0, .int .i64 0] 29)) K (.slice none 0 0) 0 0 29
  have hsz : (((w.alloc (.cells #[.int .i64 K, .slice ao n cap, .int .i64 a, .int .i64 b] 24)).alloc (.cells #[.int .i64 0, .slice none 0 0, .int .i64 0, .int .i64 0] 29)).alloc (.cells #[.int .i64 K, .slice none 0 0, .int .i64 0, .int .i64 0] 29)).heap.size = w.heap.size + 1 + 1 + 1 := by simp
  have hr0 := hr.below hA (Nat.le_refl _)
  go_enter Tryd.func6, Tryd.ntmps6
  go_wp2_with fail
  generalize (((w.alloc (.cells #[.int .i64 K, .slice ao n cap, .int .i64 a, .int .i64 b] 24)).alloc (.cells #[.int .i64 0, .slice none 0 0, .int .i64 0, .int .i64 0] 29)).alloc (.cells #[.int .i64 K, .slice none 0 0, .int .i64 0, .int .i64 0] 29)) = W0 at hA v1 v2 v3 hsz hr0 ⊢
  refine (toArcS_any ao n cap F T G hn _ hr0).mono ?_
  rintro e w1 ⟨rfl, hown, hb1⟩
  have hA1 := below_next hA (Nat.le_refl _) hb1
  replace v1 := v1.next hb1
  replace v2 := v2.next hb1
  replace v3 := v3.next hb1
  rw [hsz] at hown
  have p2 : w1.cell? ⟨w.heap.size, 2, none⟩ = some (.int .i64 a) := v1.cell (j := 2) (by omega)
  have p3 : w1.cell? ⟨w.heap.size, 3, none⟩ = some (.int .i64 b) := v1.cell (j := 3) (by omega)
  have r0 : w1.cell? ⟨w.heap.size + 1, 0, none⟩ = some (.int .i64 0) := v2.cell (j := 0) (by omega)
  have r1 : w1.cell? ⟨w.heap.size + 1, 1, none⟩ = some (.slice none 0 0) := v2.cell (j := 1) (by omega)
  have r2 : w1.cell? ⟨w.heap.size + 1, 2, none⟩ = some (.int .i64 0) := v2.cell (j := 2) (by omega)
  have r3 : w1.cell? ⟨w.heap.size + 1, 3, none⟩ = some (.int .i64 0) := v2.cell (j := 3) (by omega)
  have s0 : w1.cell? ⟨w.heap.size + 1 + 1, 0, none⟩ = some (.int .i64 K) := v3.cell (j := 0) (by omega)
  have s1 : w1.cell? ⟨w.heap.size + 1 + 1, 1, none⟩ = some (.slice none 0 0) := v3.cell (j := 1) (by omega)
  have s2 : w1.cell? ⟨w.heap.size + 1 + 1, 2, none⟩ = some (.int .i64 0) := v3.cell (j := 2) (by omega)
  have s3 : w1.cell? ⟨w.heap.size + 1 + 1, 3, none⟩ = some (.int .i64 0) := v3.cell (j := 3) (by omega)
  have fz2 := fun j => v2.frozen j
  have fz3 := fun j => v3.frozen j
  clear hb1 hr0 hA v1
  go_wp2
  have u2 := ((((((v2.other (c := w.heap.size + 1 + 1) (i := 1) (by omega) (.slice (some ⟨w.heap.size + 1 + 1 + 1, 0, none⟩) n n)).other (c := w.heap.size + 1 + 1) (i := 2) (by omega) (.int .i64 a)).other (c := w.heap.size + 1 + 1) (i := 3) (by omega) (.int .i64 b)).set 0 (.int .i64 K)).set 1 (.slice (some ⟨w.heap.size + 1 + 1 + 1, 0, none⟩) n n)).set 2 (.int .i64 a)).set 3 (.int .i64 b)
  have q0 := u2.cell (j := 0) (by omega)
  have q1 := u2.cell (j := 1) (by omega)
  have q2 := u2.cell (j := 2) (by omega)
  have q3 := u2.cell (j := 3) (by omega)
  have hw1 := hA1.size
  simp at q0 q1 q2 q3
  refine bodyPost_ret (v := .agg #[.int .i64 K, .slice (some ⟨w.heap.size + 1 + 1 + 1, 0, none⟩) n n, .int .i64 a, .int .i64 b]) (by simp [results, Tryd.results6, go_sem, q0, q1, q2, q3]) rfl ⟨w.heap.size + 1 + 1 + 1, rfl, by omega, ?_, ?_⟩
  · exact World.rowIs.setOther (World.rowIs.setOther (World.rowIs.setOther (World.rowIs.setOther (World.rowIs.setOther (World.rowIs.setOther (World.rowIs.setOther hown (by simp) _) (by simp) _) (by simp) _) (by simp; omega) _) (by simp; omega) _) (by simp; omega) _) (by simp; omega) _
  · exact ((((((hA1.setCell (by simp; omega) _).setCell (by simp; omega) _).setCell (by simp; omega) _).setCell (by simp) _).setCell (by simp) _).setCell (by simp) _).setCell (by simp) _

end Go.Proofs.YtmnohgcjdhokdajDoor
