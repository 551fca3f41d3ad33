/-
  CommandOk by a plain function: that the document and the program answer just that.
-/
import Derived.Test.YtcmeppjfjledfakDoorCmdP
import Derived.Test.YtcmeppjfjledfakDoorOkA
import Derived.Test.YtcmeppjfjledfakDoorIn
import Derived.Test.YtcmeppjfjledfakDoorBase
import Derived.Deep.DrawnRows
import Derived.Deep.RegionHeld3
import Derived.Deep.RegionLaw
import Derived.Deep.RegionWith
import Derived.BigQuiet
import Derived.Deep.QuietTactic
set_option linter.unusedVariables false
set_option linter.unusedSimpArgs false
namespace Go.Proofs.YtcmeppjfjledfakDoor
open Go.ChangeShapes Go.WideShapes Go.ChangeAt Go.RowKit Go.Deep Go.Joins
attribute [local go_sem ↓] Go.wp_at_zero Go.wp_at_succ

set_option maxHeartbeats 1000000 in
theorem batchOk_any (ao : Option Addr) (n cap : Nat) (F T G : Nat → Int) (hn : n ≤ 1048576) (w : World) (hr : Row w ao n F T G) :
    Calls Tryd.prog 51 #[.slice ao n cap] w fun e w' => e = .returned (.bool (batchB F T G n)) ∧ Below w.heap.size w w' := by
  by_cases h1 : n < 1
  · have h1' : (n : Int) < 1 := by omega
    have hv : batchB F T G n = false := by simp [batchB]; omega
    rw [hv]
    go_enter Tryd.func51, Tryd.ntmps51
    go_wp2
    go_ret
    exact ⟨rfl, Below.refl _ _⟩
  have h1' : ¬ (n : Int) < 1 := by omega
  by_cases h2 : 10 < n
  · have h2' : 10 < (n : Int) := by omega
    have hv : batchB F T G n = false := by simp [batchB]; omega
    rw [hv]
    go_enter Tryd.func51, Tryd.ntmps51
    go_wp2
    go_ret
    exact ⟨rfl, Below.refl _ _⟩
  have h2' : ¬ 10 < (n : Int) := by omega
  have hv : batchB F T G n = batB F T G n := by
    have e1 : decide (1 ≤ n) = true := by simp; omega
    have e2 : decide (n ≤ 10) = true := by simp; omega
    rw [batchB, e1, e2]; rfl
  rw [hv]
  clear hv
  go_enter Tryd.func51, Tryd.ntmps51
  go_wp2
  go_loopw [15] (fun x wr => ∃ i : Nat, i ≤ n ∧ x = .int .i64 i ∧ batB F T G i = true ∧ Below w.heap.size w wr) (fun x _ => n - (intOf x).toNat)
  case atStart => exact ⟨0, Nat.zero_le _, rfl, rfl, Below.refl _ _⟩
  case round =>
    obtain ⟨i, hi, rfl, hall, hbel⟩ := hrel
    by_cases hlt : i < n
    rotate_left
    · obtain rfl : i = n := by omega
      go_wp2
      go_ret
      exact ⟨by rw [hall]; rfl, hbel⟩
    obtain ⟨b, o, eo, c0, c1, c2⟩ := (hr.below hbel (Nat.le_refl _)) i hlt
    subst eo
    have hlt' : (i : Int) < (n : Int) := by omega
    have hi0 : (0 : Int) ≤ (i : Int) := by omega
    have hal := (Below.refl wr.heap.size wr).alloc (Nat.le_refl _) (.cells #[.int .i64 (F i), .int .i64 (T i), .int .i64 (G i)] 95)
    have hB := below_next hbel (Nat.le_refl _) hal
    cases ha : arcB (F i) (T i) (G i) 24
    · have hno := batB_no hlt ha
      go_wp2_with fail
      refine (arcOk_any (F i) (T i) (G i) 24 _).mono ?_
      rintro e w1 ⟨rfl, hb1⟩
      rw [ha]
      go_wp2
      go_ret
      exact ⟨by rw [hno]; rfl, below_next hB (Nat.le_refl _) hb1⟩
    · go_wp2_with fail
      refine (arcOk_any (F i) (T i) (G i) 24 _).mono ?_
      rintro e w1 ⟨rfl, hb1⟩
      rw [ha]
      go_wp2
      go_roundw
      case rel => exact ⟨i + 1, by omega, by go_num, by simp [batB, hall, ha], below_next hB (Nat.le_refl _) hb1⟩
      case measure => simp [intOf]; omega

/-- What a command does, behind the interface. -/
def deedV (K : Int) (ao : Option Addr) (n cap : Nat) (a b : Int) : Value :=
  if K = 1 then .iface 117 (.agg #[])
  else if K = 2 then .iface 119 (.agg #[.slice ao n cap])
  else if K = 3 then .iface 122 (.agg #[.int .i64 a, .int .i64 b])
  else .nilIface


end Go.Proofs.YtcmeppjfjledfakDoor
