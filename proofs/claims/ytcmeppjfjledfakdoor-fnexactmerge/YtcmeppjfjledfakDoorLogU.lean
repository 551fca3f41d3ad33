/-
  The program's LastTerm: the last entry's number, 0 of none.
-/
import Derived.Test.YtcmeppjfjledfakDoorEnt
set_option linter.unusedVariables false
set_option linter.unusedSimpArgs false
namespace Go.Proofs.YtcmeppjfjledfakDoor
open Go.RowKit
attribute [local go_sem ↓] Go.wp_at_zero Go.wp_at_succ

/-- The last of n numbers, 0 of none. -/
def lastT (n : Nat) (T : Nat → Int) : Int := if n = 0 then 0 else T (n - 1)

theorem implLastTerm_any (ao : Option Addr) (n cap : Nat) (T : Nat → Int) (X : Nat → ByteArray) (hn : n ≤ 9223372036854775807) (w : World) (hr : NRow w ao n T X) :
    Calls Tryd.prog 23 #[.slice ao n cap] w fun e w' => e = .returned (.int .i64 (lastT n T)) ∧ w' = w := by
  unfold lastT
  by_cases h0 : n = 0
  · subst h0
    rw [if_pos rfl]
    go_enter Tryd.func23, Tryd.ntmps23
    go_wp2
    go_ret
    exact ⟨rfl, rfl⟩
  · rw [if_neg h0]
    obtain ⟨b, o, rfl, c0, c1⟩ := hr (n - 1) (by omega)
    have hi : ((n : Int) - 1).toNat = n - 1 := by omega
    have hn1 : ¬ ((n : Int) = 0) := by omega
    have hn2 : (0 : Int) ≤ (n : Int) - 1 := by omega
    have hn3 : (n : Int) - 1 < (n : Int) := by omega
    go_enter Tryd.func23, Tryd.ntmps23
    go_wp2
    go_ret
    exact ⟨rfl, rfl⟩

end Go.Proofs.YtcmeppjfjledfakDoor
