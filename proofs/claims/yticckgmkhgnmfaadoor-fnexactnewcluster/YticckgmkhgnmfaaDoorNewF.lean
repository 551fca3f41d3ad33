/-
  The exact law's helpers at servers whose lists are none.
-/
import Derived.Test.YticckgmkhgnmfaaDoorBase
set_option linter.unusedVariables false
set_option linter.unusedSimpArgs false
namespace Go.Proofs.YticckgmkhgnmfaaDoor
open Go.RowKit
attribute [local go_sem ↓] Go.wp_at_zero Go.wp_at_succ

theorem eqEntryS_nil (w : World) : Calls Tryd.prog 77 #[.slice none 0 0, .slice none 0 0] w fun e w' => e = .returned (.bool true) ∧ w' = w := by
  go_enter Tryd.func77, Tryd.ntmps77
  go_wp2
  go_loopw [5] (fun x wr => x = .int .i64 0 ∧ wr = w) (fun _ _ => 0)
  case atStart => exact ⟨rfl, rfl⟩
  case round =>
    obtain ⟨rfl, rfl⟩ := hrel
    go_wp2
    go_ret
    exact ⟨rfl, rfl⟩
theorem markEntryS_nil (k : Int) (w : World) : Calls Tryd.prog 50 #[.slice none 0 0, .int .i64 k] w fun e w' => e = .returned (.int .i64 k) ∧ w' = w := by
  go_enter Tryd.func50, Tryd.ntmps50
  go_wp2
  go_loopw [1, 5] (fun y x wr => y = .int .i64 k ∧ x = .int .i64 0 ∧ wr = w) (fun _ _ _ => 0)
  case atStart => exact ⟨rfl, rfl, rfl⟩
  case round =>
    obtain ⟨rfl, rfl, rfl⟩ := hrel
    go_wp2
    go_ret
    exact ⟨rfl, rfl⟩
theorem heldEntryS_nil (k : Int) (w : World) : Calls Tryd.prog 52 #[.slice none 0 0, .int .i64 k] w fun e w' => e = .returned (.int .i64 k) ∧ w' = w := by
  go_enter Tryd.func52, Tryd.ntmps52
  go_wp2
  go_loopw [1, 5] (fun y x wr => y = .int .i64 k ∧ x = .int .i64 0 ∧ wr = w) (fun _ _ _ => 0)
  case atStart => exact ⟨rfl, rfl, rfl⟩
  case round =>
    obtain ⟨rfl, rfl, rfl⟩ := hrel
    go_wp2
    go_ret
    exact ⟨rfl, rfl⟩
theorem eqInt64S_nil (w : World) : Calls Tryd.prog 78 #[.slice none 0 0, .slice none 0 0] w fun e w' => e = .returned (.bool true) ∧ w' = w := by
  go_enter Tryd.func78, Tryd.ntmps78
  go_wp2
  go_loopw [5] (fun x wr => x = .int .i64 0 ∧ wr = w) (fun _ _ => 0)
  case atStart => exact ⟨rfl, rfl⟩
  case round =>
    obtain ⟨rfl, rfl⟩ := hrel
    go_wp2
    go_ret
    exact ⟨rfl, rfl⟩
theorem markInt64S_nil (k : Int) (w : World) : Calls Tryd.prog 51 #[.slice none 0 0, .int .i64 k] w fun e w' => e = .returned (.int .i64 k) ∧ w' = w := by
  go_enter Tryd.func51, Tryd.ntmps51
  go_wp2
  go_loopw [1, 5] (fun y x wr => y = .int .i64 k ∧ x = .int .i64 0 ∧ wr = w) (fun _ _ _ => 0)
  case atStart => exact ⟨rfl, rfl, rfl⟩
  case round =>
    obtain ⟨rfl, rfl, rfl⟩ := hrel
    go_wp2
    go_ret
    exact ⟨rfl, rfl⟩
theorem heldInt64S_nil (k : Int) (w : World) : Calls Tryd.prog 53 #[.slice none 0 0, .int .i64 k] w fun e w' => e = .returned (.int .i64 k) ∧ w' = w := by
  go_enter Tryd.func53, Tryd.ntmps53
  go_wp2
  go_loopw [1, 5] (fun y x wr => y = .int .i64 k ∧ x = .int .i64 0 ∧ wr = w) (fun _ _ _ => 0)
  case atStart => exact ⟨rfl, rfl, rfl⟩
  case round =>
    obtain ⟨rfl, rfl, rfl⟩ := hrel
    go_wp2
    go_ret
    exact ⟨rfl, rfl⟩
theorem eqNode_nil (i p t v r c : Int) (w : World) : Calls Tryd.prog 48 #[.agg #[.int .i64 i, .int .i64 p, .int .i64 t, .int .i64 v, .slice none 0 0, .int .i64 r, .int .i64 c, .slice none 0 0, .slice none 0 0, .slice none 0 0], .agg #[.int .i64 i, .int .i64 p, .int .i64 t, .int .i64 v, .slice none 0 0, .int .i64 r, .int .i64 c, .slice none 0 0, .slice none 0 0, .slice none 0 0]] w fun e w' => e = .returned (.bool true) ∧ Below w.heap.size w w' := by
  have hb : Below w.heap.size w ((w.alloc (.cells #[.int .i64 i, .int .i64 p, .int .i64 t, .int .i64 v, .slice none 0 0, .int .i64 r, .int .i64 c, .slice none 0 0, .slice none 0 0, .slice none 0 0] 51)).alloc (.cells #[.int .i64 i, .int .i64 p, .int .i64 t, .int .i64 v, .slice none 0 0, .int .i64 r, .int .i64 c, .slice none 0 0, .slice none 0 0, .slice none 0 0] 51)) := ((Below.refl _ _).alloc (Nat.le_refl _) _).alloc (by simp) _
  have ya4 : ((w.alloc (.cells #[.int .i64 i, .int .i64 p, .int .i64 t, .int .i64 v, .slice none 0 0, .int .i64 r, .int .i64 c, .slice none 0 0, .slice none 0 0, .slice none 0 0] 51)).alloc (.cells #[.int .i64 i, .int .i64 p, .int .i64 t, .int .i64 v, .slice none 0 0, .int .i64 r, .int .i64 c, .slice none 0 0, .slice none 0 0, .slice none 0 0] 51)).cell? ⟨w.heap.size, 4, none⟩ = some (.slice none 0 0) := by simp [go_sem]
  have ya5 : ((w.alloc (.cells #[.int .i64 i, .int .i64 p, .int .i64 t, .int .i64 v, .slice none 0 0, .int .i64 r, .int .i64 c, .slice none 0 0, .slice none 0 0, .slice none 0 0] 51)).alloc (.cells #[.int .i64 i, .int .i64 p, .int .i64 t, .int .i64 v, .slice none 0 0, .int .i64 r, .int .i64 c, .slice none 0 0, .slice none 0 0, .slice none 0 0] 51)).cell? ⟨w.heap.size, 5, none⟩ = some (.int .i64 r) := by simp [go_sem]
  have ya6 : ((w.alloc (.cells #[.int .i64 i, .int .i64 p, .int .i64 t, .int .i64 v, .slice none 0 0, .int .i64 r, .int .i64 c, .slice none 0 0, .slice none 0 0, .slice none 0 0] 51)).alloc (.cells #[.int .i64 i, .int .i64 p, .int .i64 t, .int .i64 v, .slice none 0 0, .int .i64 r, .int .i64 c, .slice none 0 0, .slice none 0 0, .slice none 0 0] 51)).cell? ⟨w.heap.size, 6, none⟩ = some (.int .i64 c) := by simp [go_sem]
  have ya7 : ((w.alloc (.cells #[.int .i64 i, .int .i64 p, .int .i64 t, .int .i64 v, .slice none 0 0, .int .i64 r, .int .i64 c, .slice none 0 0, .slice none 0 0, .slice none 0 0] 51)).alloc (.cells #[.int .i64 i, .int .i64 p, .int .i64 t, .int .i64 v, .slice none 0 0, .int .i64 r, .int .i64 c, .slice none 0 0, .slice none 0 0, .slice none 0 0] 51)).cell? ⟨w.heap.size, 7, none⟩ = some (.slice none 0 0) := by simp [go_sem]
  have ya8 : ((w.alloc (.cells #[.int .i64 i, .int .i64 p, .int .i64 t, .int .i64 v, .slice none 0 0, .int .i64 r, .int .i64 c, .slice none 0 0, .slice none 0 0, .slice none 0 0] 51)).alloc (.cells #[.int .i64 i, .int .i64 p, .int .i64 t, .int .i64 v, .slice none 0 0, .int .i64 r, .int .i64 c, .slice none 0 0, .slice none 0 0, .slice none 0 0] 51)).cell? ⟨w.heap.size, 8, none⟩ = some (.slice none 0 0) := by simp [go_sem]
  have ya9 : ((w.alloc (.cells #[.int .i64 i, .int .i64 p, .int .i64 t, .int .i64 v, .slice none 0 0, .int .i64 r, .int .i64 c, .slice none 0 0, .slice none 0 0, .slice none 0 0] 51)).alloc (.cells #[.int .i64 i, .int .i64 p, .int .i64 t, .int .i64 v, .slice none 0 0, .int .i64 r, .int .i64 c, .slice none 0 0, .slice none 0 0, .slice none 0 0] 51)).cell? ⟨w.heap.size, 9, none⟩ = some (.slice none 0 0) := by simp [go_sem]
  have yb4 : ((w.alloc (.cells #[.int .i64 i, .int .i64 p, .int .i64 t, .int .i64 v, .slice none 0 0, .int .i64 r, .int .i64 c, .slice none 0 0, .slice none 0 0, .slice none 0 0] 51)).alloc (.cells #[.int .i64 i, .int .i64 p, .int .i64 t, .int .i64 v, .slice none 0 0, .int .i64 r, .int .i64 c, .slice none 0 0, .slice none 0 0, .slice none 0 0] 51)).cell? ⟨w.heap.size + 1, 4, none⟩ = some (.slice none 0 0) := by simp [go_sem]
  have yb5 : ((w.alloc (.cells #[.int .i64 i, .int .i64 p, .int .i64 t, .int .i64 v, .slice none 0 0, .int .i64 r, .int .i64 c, .slice none 0 0, .slice none 0 0, .slice none 0 0] 51)).alloc (.cells #[.int .i64 i, .int .i64 p, .int .i64 t, .int .i64 v, .slice none 0 0, .int .i64 r, .int .i64 c, .slice none 0 0, .slice none 0 0, .slice none 0 0] 51)).cell? ⟨w.heap.size + 1, 5, none⟩ = some (.int .i64 r) := by simp [go_sem]
  have yb6 : ((w.alloc (.cells #[.int .i64 i, .int .i64 p, .int .i64 t, .int .i64 v, .slice none 0 0, .int .i64 r, .int .i64 c, .slice none 0 0, .slice none 0 0, .slice none 0 0] 51)).alloc (.cells #[.int .i64 i, .int .i64 p, .int .i64 t, .int .i64 v, .slice none 0 0, .int .i64 r, .int .i64 c, .slice none 0 0, .slice none 0 0, .slice none 0 0] 51)).cell? ⟨w.heap.size + 1, 6, none⟩ = some (.int .i64 c) := by simp [go_sem]
  have yb7 : ((w.alloc (.cells #[.int .i64 i, .int .i64 p, .int .i64 t, .int .i64 v, .slice none 0 0, .int .i64 r, .int .i64 c, .slice none 0 0, .slice none 0 0, .slice none 0 0] 51)).alloc (.cells #[.int .i64 i, .int .i64 p, .int .i64 t, .int .i64 v, .slice none 0 0, .int .i64 r, .int .i64 c, .slice none 0 0, .slice none 0 0, .slice none 0 0] 51)).cell? ⟨w.heap.size + 1, 7, none⟩ = some (.slice none 0 0) := by simp [go_sem]
  have yb8 : ((w.alloc (.cells #[.int .i64 i, .int .i64 p, .int .i64 t, .int .i64 v, .slice none 0 0, .int .i64 r, .int .i64 c, .slice none 0 0, .slice none 0 0, .slice none 0 0] 51)).alloc (.cells #[.int .i64 i, .int .i64 p, .int .i64 t, .int .i64 v, .slice none 0 0, .int .i64 r, .int .i64 c, .slice none 0 0, .slice none 0 0, .slice none 0 0] 51)).cell? ⟨w.heap.size + 1, 8, none⟩ = some (.slice none 0 0) := by simp [go_sem]
  have yb9 : ((w.alloc (.cells #[.int .i64 i, .int .i64 p, .int .i64 t, .int .i64 v, .slice none 0 0, .int .i64 r, .int .i64 c, .slice none 0 0, .slice none 0 0, .slice none 0 0] 51)).alloc (.cells #[.int .i64 i, .int .i64 p, .int .i64 t, .int .i64 v, .slice none 0 0, .int .i64 r, .int .i64 c, .slice none 0 0, .slice none 0 0, .slice none 0 0] 51)).cell? ⟨w.heap.size + 1, 9, none⟩ = some (.slice none 0 0) := by simp [go_sem]
  go_enter Tryd.func48, Tryd.ntmps48
  go_wp2_with fail
  refine (eqEntryS_nil _).mono ?_
  rintro e w1 ⟨rfl, rfl⟩
  go_wp2_with fail
  refine (eqInt64S_nil _).mono ?_
  rintro e w1 ⟨rfl, rfl⟩
  go_wp2_with fail
  refine (eqInt64S_nil _).mono ?_
  rintro e w1 ⟨rfl, rfl⟩
  go_wp2_with fail
  refine (eqInt64S_nil _).mono ?_
  rintro e w1 ⟨rfl, rfl⟩
  go_wp2
  go_ret
  exact ⟨rfl, hb⟩

end Go.Proofs.YticckgmkhgnmfaaDoor
