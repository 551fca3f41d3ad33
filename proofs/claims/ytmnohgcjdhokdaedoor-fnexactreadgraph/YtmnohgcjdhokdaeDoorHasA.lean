/-
  Arcs of the law's own: each number is marked.
-/
import Derived.Test.YtmnohgcjdhokdaeDoorMark
set_option linter.unusedVariables false
set_option linter.unusedSimpArgs false
namespace Go.Proofs.YtmnohgcjdhokdaeDoor
open Go.RowKit Go.Maps

set_option maxHeartbeats 1000000 in
theorem markArcS_any (b n cap : Nat) (f : Nat → Int) (k : Int) (hk0 : 0 ≤ k) (hk1 : k ≤ 4000000) (hn : n ≤ 1048576) (w : World) (h : 0 < n → Has w b n f) (ao : Option Addr) (hao : 0 < n → ao = some ⟨b, 0, none⟩) :
    Calls Tryd.prog 25 #[.slice ao n cap, .int .i64 k] w fun e w' => e = .returned (.int .i64 (k + 3 * n)) ∧ (0 < n → Has w' b n (mk k)) ∧ w.grownBy w' (some b) := by
  go_enter Tryd.func25, Tryd.ntmps25
  go_wp2
  go_loopw [1, 5] (fun q i wr => ∃ m : Nat, m ≤ n ∧ i = .int .i64 m ∧ q = .int .i64 (k + 3 * m) ∧ (0 < n → Has wr b n (fun j => if j < 3 * m then mk k j else f j)) ∧ w.grownBy wr (some b)) (fun _ i _ => n - (intOf i).toNat)
  case atStart => exact ⟨0, Nat.zero_le _, rfl, by simp, fun hp => (h hp).congr (fun j _ => by simp), World.grownBy.refl _ _⟩
  case round =>
    obtain ⟨m, hm, rfl, rfl, hh, hg⟩ := hrel
    by_cases hlt : m < n
    rotate_left
    · have e : m = n := by omega
      subst e
      go_wp2
      go_ret
      exact ⟨rfl, fun hp => (hh hp).congr (fun j hj => by rw [if_pos (by omega)]), hg⟩
    obtain rfl := hao (by omega)
    have HH := hh (by omega)
    have d0 := HH.cell (j := m * 3) (by omega)
    have d1 := HH.cell (j := m * 3 + 1) (by omega)
    have d2 := HH.cell (j := m * 3 + 2) (by omega)
    have z0 := HH.frozen (m * 3)
    have z1 := HH.frozen (m * 3 + 1)
    have z2 := HH.frozen (m * 3 + 2)
    have R := ((HH.set (m * 3) (k + 3 * m)).set (m * 3 + 1) (k + 3 * m + 1)).set (m * 3 + 2) (k + 3 * m + 1 + 1)
    have S := ((hg.trans (grown_setCell _ b (m * 3) (.int .i64 (k + 3 * m)))).trans (grown_setCell _ b (m * 3 + 1) (.int .i64 (k + 3 * m + 1)))).trans (grown_setCell _ b (m * 3 + 2) (.int .i64 (k + 3 * m + 1 + 1)))
    clear HH hh
    go_wp2
    go_roundw
    case rel =>
      refine ⟨m + 1, by omega, by go_num, by go_num, fun _ => R.congr (fun j hj => ?_), S⟩
      by_cases e2 : j = m * 3 + 2
      · subst e2; simp [mk]; omega
      by_cases e1 : j = m * 3 + 1
      · subst e1; simp [mk]; omega
      by_cases e0 : j = m * 3
      · subst e0; simp [mk]; omega
      simp only [if_neg e2, if_neg e1, if_neg e0]
      by_cases hl : j < 3 * m
      · rw [if_pos hl, if_pos (by omega)]
      · rw [if_neg hl, if_neg (by omega)]
    case measure => simp [intOf]; omega

attribute [local go_sem ↓] Go.wp_at_zero Go.wp_at_succ

end Go.Proofs.YtmnohgcjdhokdaeDoor
