/-
  The look whether arcs' marks are still held.
-/
import Derived.Test.YtmnohgcjdhokdaeDoorMark
set_option linter.unusedVariables false
set_option linter.unusedSimpArgs false
namespace Go.Proofs.YtmnohgcjdhokdaeDoor
open Go.RowKit Go.Maps
attribute [local go_sem ↓] Go.wp_at_zero Go.wp_at_succ

set_option maxHeartbeats 1000000 in
theorem heldArcS_any (b n cap : Nat) (k : Int) (hk0 : 0 ≤ k) (hk1 : k ≤ 4000000) (hn : n ≤ 1048576) (w : World) (h : 0 < n → Has w b n (mk k)) (ao : Option Addr) (hao : 0 < n → ao = some ⟨b, 0, none⟩) :
    Calls Tryd.prog 26 #[.slice ao n cap, .int .i64 k] w fun e w' => e = .returned (.int .i64 (k + 3 * n)) ∧ w' = w := by
  go_enter Tryd.func26, Tryd.ntmps26
  go_wp2
  go_loop [1, 5] (fun q i => ∃ m : Nat, m ≤ n ∧ i = .int .i64 m ∧ q = .int .i64 (k + 3 * m)) (fun _ i => n - (intOf i).toNat)
  case atStart => exact ⟨0, Nat.zero_le _, rfl, by simp⟩
  case round =>
    obtain ⟨m, hm, rfl, rfl⟩ := hrel
    by_cases hlt : m < n
    rotate_left
    · have e : m = n := by omega
      subst e
      go_wp2
      go_ret
      exact ⟨rfl, rfl⟩
    obtain rfl := hao (by omega)
    have HH := h (by omega)
    have d0 : w.cell? ⟨b, m * 3, none⟩ = some (.int .i64 (k + 3 * m)) := by
      rw [HH.cell (by omega)]; simp [mk]; omega
    have d1 : w.cell? ⟨b, m * 3 + 1, none⟩ = some (.int .i64 (k + 3 * m + 1)) := by
      rw [HH.cell (by omega)]; simp [mk]; omega
    have d2 : w.cell? ⟨b, m * 3 + 2, none⟩ = some (.int .i64 (k + 3 * m + 1 + 1)) := by
      rw [HH.cell (by omega)]; simp [mk]; omega
    clear HH
    go_wp2
    go_round
    case rel => exact ⟨m + 1, by omega, by go_num, by go_num⟩
    case measure => simp [intOf]; omega

end Go.Proofs.YtmnohgcjdhokdaeDoor
