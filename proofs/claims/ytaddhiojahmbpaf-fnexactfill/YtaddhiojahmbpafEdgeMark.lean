/-
  The exact laws' marks in edges of the law's own.
-/
import Derived.Test.YtaddhiojahmbpafEdge
set_option linter.unusedVariables false
set_option linter.unusedSimpArgs false
namespace Go.Proofs.Ytaddhiojahmbpaf
open Go.RowKit

/-- The marks: cell j holds k + j. -/
def mke (k : Int) (j : Nat) : Int := k + j

set_option maxHeartbeats 1000000 in
theorem markEdgeS_any (b n cap : Nat) (f : Nat → Int) (k : Int) (hk0 : 0 ≤ k) (hk1 : k ≤ 4000000) (hn : n ≤ 1048576) (w : World) (h : 0 < n → EHas w b n f) (ao : Option Addr) (hao : 0 < n → ao = some ⟨b, 0, none⟩) :
    Calls Try.prog 30 #[.slice ao n cap, .int .i64 k] w fun e w' => e = .returned (.int .i64 (k + 2 * n)) ∧ (0 < n → EHas w' b n (mke k)) ∧ w.grownBy w' (some b) := by
  go_enter Try.func30, Try.ntmps30
  go_wp2
  go_loopw [1, 5] (fun q i wr => ∃ m : Nat, m ≤ n ∧ i = .int .i64 m ∧ q = .int .i64 (k + 2 * m) ∧ (0 < n → EHas wr b n (fun j => if j < 2 * m then mke k j else f j)) ∧ w.grownBy wr (some b)) (fun _ i _ => n - (intOf i).toNat)
  case atStart => exact ⟨0, Nat.zero_le _, rfl, by simp, fun hp => (h hp).congr (fun j _ => by simp), World.grownBy.refl _ _⟩
  case round =>
    obtain ⟨m, hm, rfl, rfl, hh, hg⟩ := hrel
    by_cases hlt : m < n
    rotate_left
    · have e : m = n := by omega
      subst e
      go_wp2
      go_ret
      exact ⟨rfl, fun hp => (hh hp).congr (fun j hj => by rw [if_pos (by omega)]), hg⟩
    obtain rfl := hao (by omega)
    have HH := hh (by omega)
    have d0 := HH.cell (j := m * 2) (by omega)
    have d1 := HH.cell (j := m * 2 + 1) (by omega)
    have z0 := HH.frozen (m * 2)
    have z1 := HH.frozen (m * 2 + 1)
    have R := (HH.set (m * 2) (k + 2 * m)).set (m * 2 + 1) (k + 2 * m + 1)
    have S := (hg.trans (gr_setCell _ b (m * 2) (.int .i64 (k + 2 * m)))).trans (gr_setCell _ b (m * 2 + 1) (.int .i64 (k + 2 * m + 1)))
    clear HH hh
    go_wp2
    go_roundw
    case rel =>
      refine ⟨m + 1, by omega, by go_num, by go_num, fun _ => R.congr (fun j hj => ?_), S⟩
      by_cases e1 : j = m * 2 + 1
      · subst e1; simp [mke]; omega
      by_cases e0 : j = m * 2
      · subst e0; simp [mke]; omega
      simp only [if_neg e1, if_neg e0]
      by_cases hl : j < 2 * m
      · rw [if_pos hl, if_pos (by omega)]
      · rw [if_neg hl, if_neg (by omega)]
    case measure => simp [intOf]; omega

end Go.Proofs.Ytaddhiojahmbpaf
