/-
  The document's CommandOk answers as the plain function.
-/
import Derived.Test.YtcmeppjfjledfakDoorCmdP
import Derived.Test.YtcmeppjfjledfakDoorOk
import Derived.Test.YtcmeppjfjledfakDoorBase
import Derived.Test.YtcmeppjfjledfakDoorIn
set_option linter.unusedVariables false
set_option linter.unusedSimpArgs false
namespace Go.Proofs.YtcmeppjfjledfakDoor
open Go.ChangeShapes Go.WideShapes Go.ChangeAt Go.RowKit Go.Deep Go.Joins
attribute [local go_sem ↓] Go.wp_at_zero Go.wp_at_succ

set_option maxRecDepth 100000 in
set_option maxHeartbeats 4000000 in
theorem specCommandOk_any (K : Int) (ao : Option Addr) (n cap : Nat) (F T G : Nat → Int) (a b : Int) (hn : n ≤ 1048576) (w : World) (hr : Row w ao n F T G) :
    Calls Tryd.prog 39 #[.agg #[.int .i64 K, .slice ao n cap, .int .i64 a, .int .i64 b]] w fun e w' => e = .returned (.bool (cmdB K n F T G a b)) ∧ Below w.heap.size w w' := by
  by_cases k1 : K = 1
  · subst k1
    by_cases hn0 : n = 0
    · subst hn0
      by_cases ha : a = 0
      · subst ha
        by_cases hb : b = 0
        · subst hb
          rw [show cmdB 1 0 F T G 0 0 = true from by simp [cmdB]]
          go_enter Tryd.func39, Tryd.ntmps39
          go_wp2
          go_ret
          exact ⟨by first | rfl | exact ret_bool (by simp [*]), (Below.refl _ _).alloc (Nat.le_refl _) _⟩
        · skip
          rw [show cmdB 1 0 F T G 0 b = false from by simp [cmdB, hb]]
          go_enter Tryd.func39, Tryd.ntmps39
          go_wp2
          go_ret
          exact ⟨by first | rfl | exact ret_bool (by simp [*]), (Below.refl _ _).alloc (Nat.le_refl _) _⟩
      · skip
        rw [show cmdB 1 0 F T G a b = false from by simp [cmdB, ha]]
        go_enter Tryd.func39, Tryd.ntmps39
        go_wp2
        go_ret
        exact ⟨by first | rfl | exact ret_bool (by simp [*]), (Below.refl _ _).alloc (Nat.le_refl _) _⟩
    · have hn0' : ¬ (n : Int) = 0 := by omega
      rw [show cmdB 1 n F T G a b = false from by simp [cmdB, hn0]]
      go_enter Tryd.func39, Tryd.ntmps39
      go_wp2
      go_ret
      exact ⟨by first | rfl | exact ret_bool (by simp [*]), (Below.refl _ _).alloc (Nat.le_refl _) _⟩
  by_cases k3 : K = 3
  · subst k3
    by_cases hn0 : n = 0
    · subst hn0
      rcases Bool.eq_false_or_eq_true (inB a 0 23) with ha | ha
      · have HQa : Hid (∀ W, Calls Tryd.prog 13 #[.int .i64 a, .int .i64 0, .int .i64 23] W fun e w' => e = .returned (.bool true) ∧ w' = W) := fun W => (l1In_any a 0 23 W).mono (fun e w' h' => ⟨by rw [h'.1, ha], h'.2⟩)
        rcases Bool.eq_false_or_eq_true (inB b 0 23) with hb | hb
        · have HQb : Hid (∀ W, Calls Tryd.prog 13 #[.int .i64 b, .int .i64 0, .int .i64 23] W fun e w' => e = .returned (.bool true) ∧ w' = W) := fun W => (l1In_any b 0 23 W).mono (fun e w' h' => ⟨by rw [h'.1, hb], h'.2⟩)
          rw [show cmdB 3 0 F T G a b = true from by simp [cmdB, ha, hb]]
          go_enter Tryd.func39, Tryd.ntmps39
          go_wp2_with (first | (go_at_call 13; with_reducible refine (HQa.out _).mono ?_; rintro e w1 ⟨rfl, rfl⟩) | (go_at_call 13; with_reducible refine (HQb.out _).mono ?_; rintro e w2 ⟨rfl, rfl⟩))
          go_ret
          exact ⟨by first | rfl | exact ret_bool (by simp [*]), (Below.refl _ _).alloc (Nat.le_refl _) _⟩
        · have HQb : Hid (∀ W, Calls Tryd.prog 13 #[.int .i64 b, .int .i64 0, .int .i64 23] W fun e w' => e = .returned (.bool false) ∧ w' = W) := fun W => (l1In_any b 0 23 W).mono (fun e w' h' => ⟨by rw [h'.1, hb], h'.2⟩)
          rw [show cmdB 3 0 F T G a b = false from by simp [cmdB, ha, hb]]
          go_enter Tryd.func39, Tryd.ntmps39
          go_wp2_with (first | (go_at_call 13; with_reducible refine (HQa.out _).mono ?_; rintro e w1 ⟨rfl, rfl⟩) | (go_at_call 13; with_reducible refine (HQb.out _).mono ?_; rintro e w2 ⟨rfl, rfl⟩))
          go_ret
          exact ⟨by first | rfl | exact ret_bool (by simp [*]), (Below.refl _ _).alloc (Nat.le_refl _) _⟩
      · have HQa : Hid (∀ W, Calls Tryd.prog 13 #[.int .i64 a, .int .i64 0, .int .i64 23] W fun e w' => e = .returned (.bool false) ∧ w' = W) := fun W => (l1In_any a 0 23 W).mono (fun e w' h' => ⟨by rw [h'.1, ha], h'.2⟩)
        rw [show cmdB 3 0 F T G a b = false from by simp [cmdB, ha]]
        go_enter Tryd.func39, Tryd.ntmps39
        go_wp2_with (first | (go_at_call 13; with_reducible refine (HQa.out _).mono ?_; rintro e w1 ⟨rfl, rfl⟩))
        go_ret
        exact ⟨by first | rfl | exact ret_bool (by simp [*]), (Below.refl _ _).alloc (Nat.le_refl _) _⟩
    · have hn0' : ¬ (n : Int) = 0 := by omega
      rw [show cmdB 3 n F T G a b = false from by simp [cmdB, hn0]]
      go_enter Tryd.func39, Tryd.ntmps39
      go_wp2
      go_ret
      exact ⟨by first | rfl | exact ret_bool (by simp [*]), (Below.refl _ _).alloc (Nat.le_refl _) _⟩
  by_cases k2 : K = 2
  rotate_left
  · skip
    rw [show cmdB K n F T G a b = false from by simp [cmdB, k1, k2, k3]]
    go_enter Tryd.func39, Tryd.ntmps39
    go_wp2
    go_ret
    exact ⟨by first | rfl | exact ret_bool (by simp [*]), (Below.refl _ _).alloc (Nat.le_refl _) _⟩
  subst k2
  by_cases h1 : n < 1
  · have h1' : (n : Int) < 1 := by omega
    rw [show cmdB 2 n F T G a b = false from by simp [cmdB, batchB]; omega]
    go_enter Tryd.func39, Tryd.ntmps39
    go_wp2
    go_ret
    exact ⟨by first | rfl | exact ret_bool (by simp [*]), (Below.refl _ _).alloc (Nat.le_refl _) _⟩
  have h1' : ¬ (n : Int) < 1 := by omega
  by_cases h2 : 10 < n
  · have h2' : 10 < (n : Int) := by omega
    rw [show cmdB 2 n F T G a b = false from by simp [cmdB, batchB]; omega]
    go_enter Tryd.func39, Tryd.ntmps39
    go_wp2
    go_ret
    exact ⟨by first | rfl | exact ret_bool (by simp [*]), (Below.refl _ _).alloc (Nat.le_refl _) _⟩
  have h2' : ¬ 10 < (n : Int) := by omega
  by_cases ha : a = 0
  rotate_left
  · skip
    rw [show cmdB 2 n F T G a b = false from by simp [cmdB, ha]]
    go_enter Tryd.func39, Tryd.ntmps39
    go_wp2
    go_ret
    exact ⟨by first | rfl | exact ret_bool (by simp [*]), (Below.refl _ _).alloc (Nat.le_refl _) _⟩
  by_cases hb : b = 0
  rotate_left
  · skip
    rw [show cmdB 2 n F T G a b = false from by simp [cmdB, hb]]
    go_enter Tryd.func39, Tryd.ntmps39
    go_wp2
    go_ret
    exact ⟨by first | rfl | exact ret_bool (by simp [*]), (Below.refl _ _).alloc (Nat.le_refl _) _⟩
  subst ha hb
  rw [show cmdB 2 n F T G 0 0 = batB F T G n from by
    have e1 : decide (1 ≤ n) = true := by simp; omega
    have e2 : decide (n ≤ 10) = true := by simp; omega
    have e3 : batchB F T G n = batB F T G n := by rw [batchB, e1, e2]; rfl
    simp [cmdB, e3]]
  have hal := (Below.refl w.heap.size w).alloc (Nat.le_refl _) (.cells #[.int .i64 2, .slice ao n cap, .int .i64 0, .int .i64 0] 64)
  have x1 : (w.alloc (.cells #[.int .i64 2, .slice ao n cap, .int .i64 0, .int .i64 0] 64)).cell? ⟨w.heap.size, 1, none⟩ = some (.slice ao n cap) := by simp [go_sem]
  have hrw := hr.below hal (Nat.le_refl _)
  go_enter Tryd.func39, Tryd.ntmps39
  go_wp2
  generalize (w.alloc (.cells #[.int .i64 2, .slice ao n cap, .int .i64 0, .int .i64 0] 64)) = W at hal x1 hrw ⊢
  go_loopw [3] (fun x wr => ∃ i : Nat, i ≤ n ∧ x = .int .i64 i ∧ batB F T G i = true ∧ Below W.heap.size W wr) (fun x _ => n - (intOf x).toNat)
  case atStart => exact ⟨0, Nat.zero_le _, rfl, rfl, Below.refl _ _⟩
  case round =>
    obtain ⟨i, hi, rfl, hall, hbel⟩ := hrel
    have hBw := below_next hal (Nat.le_refl _) hbel
    replace x1 := keep_cell hbel (Nat.le_refl _) x1
    by_cases hlt : i < n
    rotate_left
    · obtain rfl : i = n := by omega
      go_wp2
      go_ret
      exact ⟨by rw [hall]; rfl, hBw⟩
    obtain ⟨bb, oo, eo, c0, c1, c2⟩ := (hrw.below hbel (Nat.le_refl _)) i hlt
    subst eo
    have hlt' : (i : Int) < (n : Int) := by omega
    have hi0 : (0 : Int) ≤ (i : Int) := by omega
    cases ha : arcB (F i) (T i) (G i) 24
    · have hno := batB_no hlt ha
      go_wp2_with fail
      refine (l1Arc_any (F i) (T i) (G i) 24 (by omega) (by omega) _).mono ?_
      rintro e w1 ⟨rfl, hb1⟩
      rw [ha]
      go_wp2
      go_ret
      exact ⟨by rw [hno]; rfl, below_next hBw (Nat.le_refl _) hb1⟩
    · go_wp2_with fail
      refine (l1Arc_any (F i) (T i) (G i) 24 (by omega) (by omega) _).mono ?_
      rintro e w1 ⟨rfl, hb1⟩
      rw [ha]
      go_wp2
      go_roundw
      case rel => exact ⟨i + 1, by omega, by go_num, by simp [batB, hall, ha], below_next hbel (Nat.le_refl _) hb1⟩
      case measure => simp [intOf]; omega

end Go.Proofs.YtcmeppjfjledfakDoor
