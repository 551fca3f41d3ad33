/-
  The exact laws' marks in entries of the law's own, and the look whether they are still held.
-/
import Derived.Test.YtcmeppjfjledfakDoorEnt
import Derived.Test.YtcmeppjfjledfakDoorMText
import Derived.Test.YtcmeppjfjledfakDoorSkips
import Derived.Deep.QuietTactic
import Derived.BigQuiet
set_option linter.unusedVariables false
set_option linter.unusedSimpArgs false
namespace Go.Proofs.YtcmeppjfjledfakDoor
open Go.RowKit
attribute [local go_sem ↓] Go.wp_at_zero Go.wp_at_succ

/-- The marks: numbers and texts. -/
def mkT (k : Nat) (i : Nat) : Int := (k + 2 * i : Nat)
def mkX (k : Nat) (i : Nat) : ByteArray := mtx (k + 2 * i + 1)
theorem gr_of_below {w w' : World} {b : Option Nat} (hb : Below w.heap.size w w') : w.grownBy w' b := ⟨hb.os, hb.tape, hb.output, hb.size, fun k hk _ => hb.block k hk⟩

set_option maxHeartbeats 1000000 in
theorem markEntryS_any (b n cap : Nat) (T : Nat → Int) (X : Nat → ByteArray) (k : Nat) (hk1 : k ≤ 8000000) (hn : n ≤ 3000000) (w : World) (h : 0 < n → NHas w b n T X) (ao : Option Addr) (hao : 0 < n → ao = some ⟨b, 0, none⟩) :
    Calls Tryd.prog 9 #[.slice ao n cap, .int .i64 k] w fun e w' => e = .returned (.int .i64 ((k + 2 * n : Nat) : Int)) ∧ (0 < n → NHas w' b n (mkT k) (mkX k)) ∧ w.grownBy w' (some b) := by
  go_enter Tryd.func9, Tryd.ntmps9
  go_wp2
  go_loopw [1, 5] (fun q i wr => ∃ m : Nat, m ≤ n ∧ i = .int .i64 m ∧ q = .int .i64 ((k + 2 * m : Nat) : Int) ∧ (0 < n → NHas wr b n (fun j => if j < m then mkT k j else T j) (fun j => if j < m then mkX k j else X j)) ∧ w.grownBy wr (some b)) (fun _ i _ => n - (intOf i).toNat)
  case atStart => exact ⟨0, Nat.zero_le _, rfl, by simp, fun hp => (h hp).congr (fun j hj => nr_congr (fun i _ => by simp) (fun i _ => by simp) j hj), World.grownBy.refl _ _⟩
  case round =>
    obtain ⟨m, hm, rfl, rfl, hh, hg⟩ := hrel
    by_cases hlt : m < n
    rotate_left
    · have e : m = n := by omega
      subst e
      go_wp2
      go_ret
      exact ⟨rfl, fun hp => (hh hp).congr (fun j hj => nr_congr (fun i hi => by rw [if_pos hi]) (fun i hi => by rw [if_pos hi]) j hj), hg⟩
    obtain rfl := hao (by omega)
    have HH := hh (by omega)
    have d0 := HH.cell (j := m * 2) (by omega)
    have z0 := HH.frozen (m * 2)
    have R := HH.set (m * 2) (.int .i64 (mkT k m))
    have S := hg.trans (gr_setCell wr b (m * 2) (.int .i64 (mkT k m)))
    have hmk : mkT k m = ((k + 2 * m : Nat) : Int) := rfl
    rw [hmk] at R S
    have hk9 : ((k + 2 * m : Nat) : Int) + 1 = ((k + 2 * m + 1 : Nat) : Int) := by omega
    have hw1 : IntKind.i64.wrap (((k + 2 * m : Nat) : Int) + 1) = ((k + 2 * m + 1 : Nat) : Int) := by rw [IntKind.wrap_i64]; omega
    have hMT := fun W => markText_any (k + 2 * m + 1) (by omega) (by omega) W
    have hpc : ((k + 2 * m : Nat) : Int) = (k : Int) + 2 * (m : Int) := by omega
    have hpd : ((k + 2 * m + 1 : Nat) : Int) = (k : Int) + 2 * (m : Int) + 1 := by omega
    rw [hpd] at hMT
    rw [hpc] at R S
    clear HH hh
    go_wp2_with fail
    refine (hMT _).mono ?_
    rintro e w1 ⟨rfl, hb1⟩
    have HR := R.next hb1
    have e0 := HR.cell (j := m * 2 + 1) (by omega)
    have y0 := HR.frozen (m * 2 + 1)
    have R2 := HR.set (m * 2 + 1) (.string (mtx (k + 2 * m + 1)))
    have S2 := (S.trans (gr_of_below hb1)).trans (gr_setCell w1 b (m * 2 + 1) (.string (mtx (k + 2 * m + 1))))
    clear HR R S
    go_wp2
    go_roundw
    case rel =>
      refine ⟨m + 1, by omega, by go_num, by go_num, fun _ => R2.congr (fun j hj => ?_), S2⟩
      by_cases e1 : j = m * 2 + 1
      · subst e1
        rw [if_pos rfl, nr1]
        simp [mkX]
      by_cases e9 : j = m * 2
      · subst e9
        rw [if_neg (by omega), if_pos rfl, nr0]
        simp [mkT]
      simp only [if_neg e1, if_neg e9]
      have hj2 : (j / 2 < m + 1) ↔ (j / 2 < m) := by omega
      unfold nr
      split
      · simp only [hj2]
      · simp only [hj2]
    case measure => simp [intOf]; omega

set_option maxHeartbeats 1000000 in
theorem heldEntryS_any (b n cap : Nat) (k : Nat) (hk1 : k ≤ 8000000) (hn : n ≤ 3000000) (w : World) (h : 0 < n → NHas w b n (mkT k) (mkX k)) (ao : Option Addr) (hao : 0 < n → ao = some ⟨b, 0, none⟩) :
    Calls Tryd.prog 10 #[.slice ao n cap, .int .i64 k] w fun e w' => e = .returned (.int .i64 ((k + 2 * n : Nat) : Int)) ∧ Below w.heap.size w w' := by
  go_enter Tryd.func10, Tryd.ntmps10
  go_wp2
  go_loopw [1, 5] (fun q i wr => ∃ m : Nat, m ≤ n ∧ i = .int .i64 m ∧ q = .int .i64 ((k + 2 * m : Nat) : Int) ∧ Below w.heap.size w wr) (fun _ i _ => n - (intOf i).toNat)
  case atStart => exact ⟨0, Nat.zero_le _, rfl, by simp, Below.refl _ _⟩
  case round =>
    obtain ⟨m, hm, rfl, rfl, hbel⟩ := hrel
    by_cases hlt : m < n
    rotate_left
    · have e : m = n := by omega
      subst e
      go_wp2
      go_ret
      exact ⟨rfl, hbel⟩
    obtain rfl := hao (by omega)
    have HH := (h (by omega)).below hbel (h (by omega)).lt
    have d0 := HH.cell (j := m * 2) (by omega)
    have d1 := HH.cell (j := m * 2 + 1) (by omega)
    rw [nr0] at d0
    rw [nr1] at d1
    have hmk : mkT k m = (k : Int) + 2 * (m : Int) := by simp [mkT]
    rw [hmk] at d0
    have hMT := fun W => markText_any (k + 2 * m + 1) (by omega) (by omega) W
    have hpc : ((k + 2 * m : Nat) : Int) = (k : Int) + 2 * (m : Int) := by omega
    have hpd : ((k + 2 * m + 1 : Nat) : Int) = (k : Int) + 2 * (m : Int) + 1 := by omega
    rw [hpd] at hMT
    have hw1 : IntKind.i64.wrap ((k : Int) + 2 * (m : Int) + 1) = (k : Int) + 2 * (m : Int) + 1 := by rw [IntKind.wrap_i64]; omega
    have hx : mkX k m = mtx (k + 2 * m + 1) := rfl
    rw [hx] at d1
    generalize mtx (k + 2 * m + 1) = M at hMT d1
    have hk1' : (m : Int) < (n : Int) := by omega
    go_wp2_with fail
    have hS : (fun w' : World => w'.cell? ⟨b, m * 2 + 1, none⟩ = some (.string M)) wr.drew := d1
    refine wp_region_held_drew (S := fun w' => w'.cell? ⟨b, m * 2 + 1, none⟩ = some (.string M)) (by kernel_rfl) hS (fun hS => ?_)
    refine takeH 0 (some 21) (.slice (some ⟨b, 0, none⟩) n cap) rfl rfl (by kernel_rfl) (by kernel_rfl) (by kernel_rfl) (fun _ _ _ h => h) (by rfl) hS (fun w hSw => by have hSw9 : w.cell? ⟨b, m * 2 + 1, none⟩ = some (.string M) := hSw; go_simp) ?_
    simp only [Act.put, List.setIfInBounds_toArray, List.set_cons_zero, List.set_cons_succ]
    refine takeH 1 (some 22) (.int .i64 (m : Int)) rfl rfl (by kernel_rfl) (by kernel_rfl) (by kernel_rfl) (fun _ _ _ h => h) (by rfl) hS (fun w hSw => by have hSw9 : w.cell? ⟨b, m * 2 + 1, none⟩ = some (.string M) := hSw; go_simp) ?_
    simp only [Act.put, List.setIfInBounds_toArray, List.set_cons_zero, List.set_cons_succ]
    refine takeH 2 (some 23) (.pointer (some ⟨b, m * 2, none⟩)) rfl rfl (by kernel_rfl) (by kernel_rfl) (by kernel_rfl) (fun _ _ _ h => h) (by rfl) hS (fun w hSw => by have hSw9 : w.cell? ⟨b, m * 2 + 1, none⟩ = some (.string M) := hSw; go_simp) ?_
    simp only [Act.put, List.setIfInBounds_toArray, List.set_cons_zero, List.set_cons_succ]
    refine takeH 3 (some 24) (.pointer (some ⟨b, m * 2 + 1, none⟩)) rfl rfl (by kernel_rfl) (by kernel_rfl) (by kernel_rfl) (fun _ _ _ h => h) (by rfl) hS (fun w hSw => by have hSw9 : w.cell? ⟨b, m * 2 + 1, none⟩ = some (.string M) := hSw; go_simp) ?_
    simp only [Act.put, List.setIfInBounds_toArray, List.set_cons_zero, List.set_cons_succ]
    refine takeH 4 (some 25) (.string M) rfl rfl (by kernel_rfl) (by kernel_rfl) (by kernel_rfl) (fun _ _ _ h => h) (by rfl) hS (fun w hSw => by have hSw9 : w.cell? ⟨b, m * 2 + 1, none⟩ = some (.string M) := hSw; go_simp) ?_
    simp only [Act.put, List.setIfInBounds_toArray, List.set_cons_zero, List.set_cons_succ]
    refine takeH 5 (some 26) (.int .i64 ((k : Int) + 2 * (m : Int) + 1)) rfl rfl (by kernel_rfl) (by kernel_rfl) (by kernel_rfl) (fun _ _ _ h => h) (by rfl) hS (fun w hSw => by have hSw9 : w.cell? ⟨b, m * 2 + 1, none⟩ = some (.string M) := hSw; go_simp) ?_
    simp only [Act.put, List.setIfInBounds_toArray, List.set_cons_zero, List.set_cons_succ]
    refine step1H 6 _ rfl (by kernel_rfl) (by rfl) ?_
    go_simp
    refine (hMT _).mono ?_
    rintro e w1 ⟨rfl, hb1⟩
    have hS1 : w1.cell? ⟨b, m * 2 + 1, none⟩ = some (.string M) := keep_cell hb1 (Nat.le_refl _) hS
    refine ⟨hS1, ?_⟩
    refine takeH 7 (some 28) (.bool false) rfl rfl (by kernel_rfl) (by kernel_rfl) (by kernel_rfl) (fun _ _ _ h => h) (by rfl) hS1 (fun w hSw => by have hSw9 : w.cell? ⟨b, m * 2 + 1, none⟩ = some (.string M) := hSw; go_simp) ?_
    simp only [Act.put, List.setIfInBounds_toArray, List.set_cons_zero, List.set_cons_succ]
    refine wpAnyH_done (by kernel_rfl) ?_ _
    go_wp2
    go_roundw
    case rel => exact ⟨m + 1, by omega, by go_num, by go_num, below_next hbel.drew (Nat.le_refl _) hb1⟩
    case measure => simp [intOf]; omega

end Go.Proofs.YtcmeppjfjledfakDoor
