/-
  What a command does (deedOf), and whether it is right: the program answers as the plain function.
-/
import Derived.Test.YticckgmkhgnmfaaDoorPack6
import Derived.Deep.RegionHeld3
import Derived.BigQuiet
import Derived.Deep.QuietTactic
set_option linter.unusedVariables false
set_option linter.unusedSimpArgs false
namespace Go.Proofs.YticckgmkhgnmfaaDoor
open Go.ChangeShapes Go.WideShapes Go.ChangeAt Go.RowKit Go.Deep Go.Joins
attribute [local go_sem ↓] Go.wp_at_zero Go.wp_at_succ

set_option maxRecDepth 100000 in
set_option maxHeartbeats 4000000 in
theorem deedOf_1 (ao : Option Addr) (n cap : Nat) (F T G : Nat → Int) (a b : Int) (hn : n ≤ 1048576) (w : World) (hr : Row w ao n F T G) :
    Calls Tryd.prog 84 #[.agg #[.int .i64 1, .slice ao n cap, .int .i64 a, .int .i64 b]] w fun e w' => e = .returned (.tuple #[deedV 1 ao n cap a b, .bool (cmdB 1 n F T G a b)]) ∧ Below w.heap.size w w' := by
  · skip
    have hd : deedV 1 ao n cap a b = .iface 134 (.agg #[]) := by simp [deedV]
    rw [hd]
    clear hd
    by_cases hn0 : n = 0
    · subst hn0
      by_cases ha : a = 0
      · subst ha
        by_cases hb : b = 0
        · subst hb
          rw [show cmdB 1 0 F T G 0 0 = true from by simp [cmdB]]
          go_enter Tryd.func84, Tryd.ntmps84
          go_wp2
          exact bodyPost_ret (v := .tuple #[.iface 134 (.agg #[]), .bool true]) (by simp [results, Tryd.results84, go_sem]) rfl ⟨rfl, (Below.refl _ _).alloc (Nat.le_refl _) _⟩
        · have hb' : ¬ (b : Int) = 0 := hb
          rw [show cmdB 1 0 F T G 0 b = false from by simp [cmdB, hb]]
          go_enter Tryd.func84, Tryd.ntmps84
          go_wp2
          exact bodyPost_ret (v := .tuple #[.iface 134 (.agg #[]), .bool false]) (by simp [results, Tryd.results84, go_sem, hb]) rfl ⟨rfl, (Below.refl _ _).alloc (Nat.le_refl _) _⟩
      · skip
        rw [show cmdB 1 0 F T G a b = false from by simp [cmdB, ha]]
        go_enter Tryd.func84, Tryd.ntmps84
        go_wp2
        exact bodyPost_ret (v := .tuple #[.iface 134 (.agg #[]), .bool false]) (by simp [results, Tryd.results84, go_sem, ha]) rfl ⟨rfl, (Below.refl _ _).alloc (Nat.le_refl _) _⟩
    · have hn0' : ¬ (n : Int) = 0 := by omega
      rw [show cmdB 1 n F T G a b = false from by simp [cmdB, hn0]]
      by_cases ha : a = 0
      · subst ha
        by_cases hb : b = 0
        · subst hb
          go_enter Tryd.func84, Tryd.ntmps84
          go_wp2
          exact bodyPost_ret (v := .tuple #[.iface 134 (.agg #[]), .bool false]) (by simp [results, Tryd.results84, go_sem, hn0, hn0']) rfl ⟨rfl, (Below.refl _ _).alloc (Nat.le_refl _) _⟩
        · skip
          go_enter Tryd.func84, Tryd.ntmps84
          go_wp2
          exact bodyPost_ret (v := .tuple #[.iface 134 (.agg #[]), .bool false]) (by simp [results, Tryd.results84, go_sem, hn0, hn0']) rfl ⟨rfl, (Below.refl _ _).alloc (Nat.le_refl _) _⟩
      · skip
        go_enter Tryd.func84, Tryd.ntmps84
        go_wp2
        exact bodyPost_ret (v := .tuple #[.iface 134 (.agg #[]), .bool false]) (by simp [results, Tryd.results84, go_sem, hn0, hn0']) rfl ⟨rfl, (Below.refl _ _).alloc (Nat.le_refl _) _⟩

set_option maxRecDepth 100000 in
set_option maxHeartbeats 4000000 in
theorem deedOf_2 (ao : Option Addr) (n cap : Nat) (F T G : Nat → Int) (a b : Int) (hn : n ≤ 1048576) (w : World) (hr : Row w ao n F T G) :
    Calls Tryd.prog 84 #[.agg #[.int .i64 2, .slice ao n cap, .int .i64 a, .int .i64 b]] w fun e w' => e = .returned (.tuple #[deedV 2 ao n cap a b, .bool (cmdB 2 n F T G a b)]) ∧ Below w.heap.size w w' := by
  · skip
    have hd : deedV 2 ao n cap a b = .iface 136 (.agg #[.slice ao n cap]) := by simp [deedV]
    rw [hd]
    clear hd
    rcases Bool.eq_false_or_eq_true (batchB F T G n) with hbt | hbt
    · have HBA : Hid (∀ W, Row W ao n F T G → Calls Tryd.prog 97 #[.slice ao n cap] W fun e w' => e = .returned (.bool true) ∧ Below W.heap.size W w') := fun W h => (batchOk_any ao n cap F T G hn W h).mono (fun e w' h' => ⟨by rw [h'.1, hbt], h'.2⟩)
      by_cases ha : a = 0
      · subst ha
        by_cases hb : b = 0
        · subst hb
          rw [show cmdB 2 n F T G 0 0 = true from by simp [cmdB, hbt]]
          clear hbt
          have hal := (Below.refl w.heap.size w).alloc (Nat.le_refl _) (.cells #[.int .i64 2, .slice ao n cap, .int .i64 0, .int .i64 0] 62)
          have hrd := (hr.below hal (Nat.le_refl _)).below (Below.refl _ (w.alloc (.cells #[.int .i64 2, .slice ao n cap, .int .i64 0, .int .i64 0] 62))).drew (Nat.le_refl _)
          have x0 : (w.alloc (.cells #[.int .i64 2, .slice ao n cap, .int .i64 0, .int .i64 0] 62)).cell? ⟨w.heap.size, 0, none⟩ = some (.int .i64 2) := by simp [go_sem]
          have x1 : (w.alloc (.cells #[.int .i64 2, .slice ao n cap, .int .i64 0, .int .i64 0] 62)).cell? ⟨w.heap.size, 1, none⟩ = some (.slice ao n cap) := by simp [go_sem]
          have x2 : (w.alloc (.cells #[.int .i64 2, .slice ao n cap, .int .i64 0, .int .i64 0] 62)).cell? ⟨w.heap.size, 2, none⟩ = some (.int .i64 0) := by simp [go_sem]
          have x3 : (w.alloc (.cells #[.int .i64 2, .slice ao n cap, .int .i64 0, .int .i64 0] 62)).cell? ⟨w.heap.size, 3, none⟩ = some (.int .i64 0) := by simp [go_sem]
          go_enter Tryd.func84, Tryd.ntmps84
          go_wp2_with fail
          go_region_held3 (fun w' => w'.cell? ⟨w.heap.size, 1, none⟩ = some (.slice ao n cap))
            (first | (go_split_ands; exact keep_cell hb1 (Nat.le_refl _) (by assumption)) | go_keep)
            (first | (go_at_call 97; refine (HBA.out _ hrd).mono ?_; rintro e w1 ⟨rfl, hb1⟩))
          all_goals
            go_wp2
            exact bodyPost_ret (v := .tuple #[.iface 136 (.agg #[.slice ao n cap]), .bool true]) (by simp [results, Tryd.results84, go_sem]) rfl ⟨rfl, below_next hal.drew (Nat.le_refl _) hb1⟩
        · skip
          rw [show cmdB 2 n F T G 0 b = false from by simp [cmdB, hb]]
          clear hbt
          have hal := (Below.refl w.heap.size w).alloc (Nat.le_refl _) (.cells #[.int .i64 2, .slice ao n cap, .int .i64 0, .int .i64 b] 62)
          have hrd := (hr.below hal (Nat.le_refl _)).below (Below.refl _ (w.alloc (.cells #[.int .i64 2, .slice ao n cap, .int .i64 0, .int .i64 b] 62))).drew (Nat.le_refl _)
          have x0 : (w.alloc (.cells #[.int .i64 2, .slice ao n cap, .int .i64 0, .int .i64 b] 62)).cell? ⟨w.heap.size, 0, none⟩ = some (.int .i64 2) := by simp [go_sem]
          have x1 : (w.alloc (.cells #[.int .i64 2, .slice ao n cap, .int .i64 0, .int .i64 b] 62)).cell? ⟨w.heap.size, 1, none⟩ = some (.slice ao n cap) := by simp [go_sem]
          have x2 : (w.alloc (.cells #[.int .i64 2, .slice ao n cap, .int .i64 0, .int .i64 b] 62)).cell? ⟨w.heap.size, 2, none⟩ = some (.int .i64 0) := by simp [go_sem]
          have x3 : (w.alloc (.cells #[.int .i64 2, .slice ao n cap, .int .i64 0, .int .i64 b] 62)).cell? ⟨w.heap.size, 3, none⟩ = some (.int .i64 b) := by simp [go_sem]
          go_enter Tryd.func84, Tryd.ntmps84
          go_wp2_with fail
          go_region_held3 (fun w' => w'.cell? ⟨w.heap.size, 1, none⟩ = some (.slice ao n cap))
            (first | (go_split_ands; exact keep_cell hb1 (Nat.le_refl _) (by assumption)) | go_keep)
            (first | (go_at_call 97; refine (HBA.out _ hrd).mono ?_; rintro e w1 ⟨rfl, hb1⟩))
          all_goals
            go_wp2
            exact bodyPost_ret (v := .tuple #[.iface 136 (.agg #[.slice ao n cap]), .bool false]) (by simp [results, Tryd.results84, go_sem, hb]) rfl ⟨rfl, below_next hal.drew (Nat.le_refl _) hb1⟩
      · skip
        rw [show cmdB 2 n F T G a b = false from by simp [cmdB, ha]]
        clear hbt
        have hal := (Below.refl w.heap.size w).alloc (Nat.le_refl _) (.cells #[.int .i64 2, .slice ao n cap, .int .i64 a, .int .i64 b] 62)
        have hrd := (hr.below hal (Nat.le_refl _)).below (Below.refl _ (w.alloc (.cells #[.int .i64 2, .slice ao n cap, .int .i64 a, .int .i64 b] 62))).drew (Nat.le_refl _)
        have x0 : (w.alloc (.cells #[.int .i64 2, .slice ao n cap, .int .i64 a, .int .i64 b] 62)).cell? ⟨w.heap.size, 0, none⟩ = some (.int .i64 2) := by simp [go_sem]
        have x1 : (w.alloc (.cells #[.int .i64 2, .slice ao n cap, .int .i64 a, .int .i64 b] 62)).cell? ⟨w.heap.size, 1, none⟩ = some (.slice ao n cap) := by simp [go_sem]
        have x2 : (w.alloc (.cells #[.int .i64 2, .slice ao n cap, .int .i64 a, .int .i64 b] 62)).cell? ⟨w.heap.size, 2, none⟩ = some (.int .i64 a) := by simp [go_sem]
        have x3 : (w.alloc (.cells #[.int .i64 2, .slice ao n cap, .int .i64 a, .int .i64 b] 62)).cell? ⟨w.heap.size, 3, none⟩ = some (.int .i64 b) := by simp [go_sem]
        go_enter Tryd.func84, Tryd.ntmps84
        go_wp2_with fail
        go_region_held3 (fun w' => w'.cell? ⟨w.heap.size, 1, none⟩ = some (.slice ao n cap))
          (first | (go_split_ands; exact keep_cell hb1 (Nat.le_refl _) (by assumption)) | go_keep)
          (first | (go_at_call 97; refine (HBA.out _ hrd).mono ?_; rintro e w1 ⟨rfl, hb1⟩))
        all_goals
          go_wp2
          exact bodyPost_ret (v := .tuple #[.iface 136 (.agg #[.slice ao n cap]), .bool false]) (by simp [results, Tryd.results84, go_sem, ha]) rfl ⟨rfl, below_next hal.drew (Nat.le_refl _) hb1⟩
    · have HBA : Hid (∀ W, Row W ao n F T G → Calls Tryd.prog 97 #[.slice ao n cap] W fun e w' => e = .returned (.bool false) ∧ Below W.heap.size W w') := fun W h => (batchOk_any ao n cap F T G hn W h).mono (fun e w' h' => ⟨by rw [h'.1, hbt], h'.2⟩)
      by_cases ha : a = 0
      · subst ha
        by_cases hb : b = 0
        · subst hb
          rw [show cmdB 2 n F T G 0 0 = false from by simp [cmdB, hbt]]
          clear hbt
          have hal := (Below.refl w.heap.size w).alloc (Nat.le_refl _) (.cells #[.int .i64 2, .slice ao n cap, .int .i64 0, .int .i64 0] 62)
          have hrd := (hr.below hal (Nat.le_refl _)).below (Below.refl _ (w.alloc (.cells #[.int .i64 2, .slice ao n cap, .int .i64 0, .int .i64 0] 62))).drew (Nat.le_refl _)
          have x0 : (w.alloc (.cells #[.int .i64 2, .slice ao n cap, .int .i64 0, .int .i64 0] 62)).cell? ⟨w.heap.size, 0, none⟩ = some (.int .i64 2) := by simp [go_sem]
          have x1 : (w.alloc (.cells #[.int .i64 2, .slice ao n cap, .int .i64 0, .int .i64 0] 62)).cell? ⟨w.heap.size, 1, none⟩ = some (.slice ao n cap) := by simp [go_sem]
          have x2 : (w.alloc (.cells #[.int .i64 2, .slice ao n cap, .int .i64 0, .int .i64 0] 62)).cell? ⟨w.heap.size, 2, none⟩ = some (.int .i64 0) := by simp [go_sem]
          have x3 : (w.alloc (.cells #[.int .i64 2, .slice ao n cap, .int .i64 0, .int .i64 0] 62)).cell? ⟨w.heap.size, 3, none⟩ = some (.int .i64 0) := by simp [go_sem]
          go_enter Tryd.func84, Tryd.ntmps84
          go_wp2_with fail
          refine wp_region_held_drew (S := fun w' => w'.cell? ⟨w.heap.size, 1, none⟩ = some (.slice ao n cap)) (by kernel_rfl) x1 (fun hS => ?_)
          refine takeH 0 (some 30) (.pointer (some ⟨w.heap.size, 1, none⟩)) rfl rfl (by kernel_rfl) (by kernel_rfl) (by kernel_rfl) (fun _ _ _ h => h) (by rfl) hS (fun w hSw => by go_simp) ?_
          simp only [Act.put, List.setIfInBounds_toArray, List.set_cons_zero, List.set_cons_succ]
          refine takeH 1 (some 31) (.slice ao n cap) rfl rfl (by kernel_rfl) (by kernel_rfl) (by kernel_rfl) (fun _ _ _ h => h) (by rfl) hS (fun w hSw => by go_simp) ?_
          simp only [Act.put, List.setIfInBounds_toArray, List.set_cons_zero, List.set_cons_succ]
          refine takeH 2 (some 32) (.agg #[.slice ao n cap]) rfl rfl (by kernel_rfl) (by kernel_rfl) (by kernel_rfl) (fun _ _ _ h => h) (by rfl) hS (fun w hSw => by go_simp) ?_
          simp only [Act.put, List.setIfInBounds_toArray, List.set_cons_zero, List.set_cons_succ]
          refine takeH 3 (some 33) (.iface 136 (.agg #[.slice ao n cap])) rfl rfl (by kernel_rfl) (by kernel_rfl) (by kernel_rfl) (fun _ _ _ h => h) (by rfl) hS (fun w hSw => by go_simp) ?_
          simp only [Act.put, List.setIfInBounds_toArray, List.set_cons_zero, List.set_cons_succ]
          refine takeH 4 (some 34) (.pointer (some ⟨w.heap.size, 1, none⟩)) rfl rfl (by kernel_rfl) (by kernel_rfl) (by kernel_rfl) (fun _ _ _ h => h) (by rfl) hS (fun w hSw => by go_simp) ?_
          simp only [Act.put, List.setIfInBounds_toArray, List.set_cons_zero, List.set_cons_succ]
          refine takeH 5 (some 35) (.slice ao n cap) rfl rfl (by kernel_rfl) (by kernel_rfl) (by kernel_rfl) (fun _ _ _ h => h) (by rfl) hS (fun w hSw => by go_simp) ?_
          simp only [Act.put, List.setIfInBounds_toArray, List.set_cons_zero, List.set_cons_succ]
          refine step1H 6 _ rfl (by kernel_rfl) (by rfl) ?_
          go_simp
          refine (HBA.out _ hrd).mono ?_
          rintro e w1 ⟨rfl, hb1⟩
          have hS1 := keep_cell hb1 (Nat.le_refl _) x1
          refine ⟨hS1, ?_⟩
          refine takeH 7 (some 37) (.bool false) rfl rfl (by kernel_rfl) (by kernel_rfl) (by kernel_rfl) (fun _ _ _ h => h) (by rfl) hS1 (fun w hSw => by go_simp) ?_
          simp only [Act.put, List.setIfInBounds_toArray, List.set_cons_zero, List.set_cons_succ]
          refine skipH 8 (some 38) rfl rfl (by kernel_rfl) (by kernel_rfl) (by kernel_rfl) (fun _ _ _ h => h) (by rfl) hS1 ?_
          simp only [Act.put, List.setIfInBounds_toArray, List.set_cons_zero, List.set_cons_succ]
          refine takeH 9 (some 39) (.bool false) rfl rfl (by kernel_rfl) (by kernel_rfl) (by kernel_rfl) (fun _ _ _ h => h) (by rfl) hS1 (fun w hSw => by go_simp) ?_
          simp only [Act.put, List.setIfInBounds_toArray, List.set_cons_zero, List.set_cons_succ]
          refine takeH 10 (some 2) (.iface 136 (.agg #[.slice ao n cap])) rfl rfl (by kernel_rfl) (by kernel_rfl) (by kernel_rfl) (fun _ _ _ h => h) (by rfl) hS1 (fun w hSw => by go_simp) ?_
          simp only [Act.put, List.setIfInBounds_toArray, List.set_cons_zero, List.set_cons_succ]
          refine takeH 11 (some 3) (.bool false) rfl rfl (by kernel_rfl) (by kernel_rfl) (by kernel_rfl) (fun _ _ _ h => h) (by rfl) hS1 (fun w hSw => by go_simp) ?_
          simp only [Act.put, List.setIfInBounds_toArray, List.set_cons_zero, List.set_cons_succ]
          refine wpAnyH_done (by kernel_rfl) ?_ _
          all_goals
            go_wp2
            exact bodyPost_ret (v := .tuple #[.iface 136 (.agg #[.slice ao n cap]), .bool false]) (by simp [results, Tryd.results84, go_sem]) rfl ⟨rfl, below_next hal.drew (Nat.le_refl _) hb1⟩
        · skip
          rw [show cmdB 2 n F T G 0 b = false from by simp [cmdB, hb]]
          clear hbt
          have hal := (Below.refl w.heap.size w).alloc (Nat.le_refl _) (.cells #[.int .i64 2, .slice ao n cap, .int .i64 0, .int .i64 b] 62)
          have hrd := (hr.below hal (Nat.le_refl _)).below (Below.refl _ (w.alloc (.cells #[.int .i64 2, .slice ao n cap, .int .i64 0, .int .i64 b] 62))).drew (Nat.le_refl _)
          have x0 : (w.alloc (.cells #[.int .i64 2, .slice ao n cap, .int .i64 0, .int .i64 b] 62)).cell? ⟨w.heap.size, 0, none⟩ = some (.int .i64 2) := by simp [go_sem]
          have x1 : (w.alloc (.cells #[.int .i64 2, .slice ao n cap, .int .i64 0, .int .i64 b] 62)).cell? ⟨w.heap.size, 1, none⟩ = some (.slice ao n cap) := by simp [go_sem]
          have x2 : (w.alloc (.cells #[.int .i64 2, .slice ao n cap, .int .i64 0, .int .i64 b] 62)).cell? ⟨w.heap.size, 2, none⟩ = some (.int .i64 0) := by simp [go_sem]
          have x3 : (w.alloc (.cells #[.int .i64 2, .slice ao n cap, .int .i64 0, .int .i64 b] 62)).cell? ⟨w.heap.size, 3, none⟩ = some (.int .i64 b) := by simp [go_sem]
          go_enter Tryd.func84, Tryd.ntmps84
          go_wp2_with fail
          refine wp_region_held_drew (S := fun w' => w'.cell? ⟨w.heap.size, 1, none⟩ = some (.slice ao n cap)) (by kernel_rfl) x1 (fun hS => ?_)
          refine takeH 0 (some 30) (.pointer (some ⟨w.heap.size, 1, none⟩)) rfl rfl (by kernel_rfl) (by kernel_rfl) (by kernel_rfl) (fun _ _ _ h => h) (by rfl) hS (fun w hSw => by go_simp) ?_
          simp only [Act.put, List.setIfInBounds_toArray, List.set_cons_zero, List.set_cons_succ]
          refine takeH 1 (some 31) (.slice ao n cap) rfl rfl (by kernel_rfl) (by kernel_rfl) (by kernel_rfl) (fun _ _ _ h => h) (by rfl) hS (fun w hSw => by go_simp) ?_
          simp only [Act.put, List.setIfInBounds_toArray, List.set_cons_zero, List.set_cons_succ]
          refine takeH 2 (some 32) (.agg #[.slice ao n cap]) rfl rfl (by kernel_rfl) (by kernel_rfl) (by kernel_rfl) (fun _ _ _ h => h) (by rfl) hS (fun w hSw => by go_simp) ?_
          simp only [Act.put, List.setIfInBounds_toArray, List.set_cons_zero, List.set_cons_succ]
          refine takeH 3 (some 33) (.iface 136 (.agg #[.slice ao n cap])) rfl rfl (by kernel_rfl) (by kernel_rfl) (by kernel_rfl) (fun _ _ _ h => h) (by rfl) hS (fun w hSw => by go_simp) ?_
          simp only [Act.put, List.setIfInBounds_toArray, List.set_cons_zero, List.set_cons_succ]
          refine takeH 4 (some 34) (.pointer (some ⟨w.heap.size, 1, none⟩)) rfl rfl (by kernel_rfl) (by kernel_rfl) (by kernel_rfl) (fun _ _ _ h => h) (by rfl) hS (fun w hSw => by go_simp) ?_
          simp only [Act.put, List.setIfInBounds_toArray, List.set_cons_zero, List.set_cons_succ]
          refine takeH 5 (some 35) (.slice ao n cap) rfl rfl (by kernel_rfl) (by kernel_rfl) (by kernel_rfl) (fun _ _ _ h => h) (by rfl) hS (fun w hSw => by go_simp) ?_
          simp only [Act.put, List.setIfInBounds_toArray, List.set_cons_zero, List.set_cons_succ]
          refine step1H 6 _ rfl (by kernel_rfl) (by rfl) ?_
          go_simp
          refine (HBA.out _ hrd).mono ?_
          rintro e w1 ⟨rfl, hb1⟩
          have hS1 := keep_cell hb1 (Nat.le_refl _) x1
          refine ⟨hS1, ?_⟩
          refine takeH 7 (some 37) (.bool false) rfl rfl (by kernel_rfl) (by kernel_rfl) (by kernel_rfl) (fun _ _ _ h => h) (by rfl) hS1 (fun w hSw => by go_simp) ?_
          simp only [Act.put, List.setIfInBounds_toArray, List.set_cons_zero, List.set_cons_succ]
          refine skipH 8 (some 38) rfl rfl (by kernel_rfl) (by kernel_rfl) (by kernel_rfl) (fun _ _ _ h => h) (by rfl) hS1 ?_
          simp only [Act.put, List.setIfInBounds_toArray, List.set_cons_zero, List.set_cons_succ]
          refine takeH 9 (some 39) (.bool false) rfl rfl (by kernel_rfl) (by kernel_rfl) (by kernel_rfl) (fun _ _ _ h => h) (by rfl) hS1 (fun w hSw => by go_simp) ?_
          simp only [Act.put, List.setIfInBounds_toArray, List.set_cons_zero, List.set_cons_succ]
          refine takeH 10 (some 2) (.iface 136 (.agg #[.slice ao n cap])) rfl rfl (by kernel_rfl) (by kernel_rfl) (by kernel_rfl) (fun _ _ _ h => h) (by rfl) hS1 (fun w hSw => by go_simp) ?_
          simp only [Act.put, List.setIfInBounds_toArray, List.set_cons_zero, List.set_cons_succ]
          refine takeH 11 (some 3) (.bool false) rfl rfl (by kernel_rfl) (by kernel_rfl) (by kernel_rfl) (fun _ _ _ h => h) (by rfl) hS1 (fun w hSw => by go_simp) ?_
          simp only [Act.put, List.setIfInBounds_toArray, List.set_cons_zero, List.set_cons_succ]
          refine wpAnyH_done (by kernel_rfl) ?_ _
          all_goals
            go_wp2
            exact bodyPost_ret (v := .tuple #[.iface 136 (.agg #[.slice ao n cap]), .bool false]) (by simp [results, Tryd.results84, go_sem, hb]) rfl ⟨rfl, below_next hal.drew (Nat.le_refl _) hb1⟩
      · skip
        rw [show cmdB 2 n F T G a b = false from by simp [cmdB, ha]]
        clear hbt
        have hal := (Below.refl w.heap.size w).alloc (Nat.le_refl _) (.cells #[.int .i64 2, .slice ao n cap, .int .i64 a, .int .i64 b] 62)
        have hrd := (hr.below hal (Nat.le_refl _)).below (Below.refl _ (w.alloc (.cells #[.int .i64 2, .slice ao n cap, .int .i64 a, .int .i64 b] 62))).drew (Nat.le_refl _)
        have x0 : (w.alloc (.cells #[.int .i64 2, .slice ao n cap, .int .i64 a, .int .i64 b] 62)).cell? ⟨w.heap.size, 0, none⟩ = some (.int .i64 2) := by simp [go_sem]
        have x1 : (w.alloc (.cells #[.int .i64 2, .slice ao n cap, .int .i64 a, .int .i64 b] 62)).cell? ⟨w.heap.size, 1, none⟩ = some (.slice ao n cap) := by simp [go_sem]
        have x2 : (w.alloc (.cells #[.int .i64 2, .slice ao n cap, .int .i64 a, .int .i64 b] 62)).cell? ⟨w.heap.size, 2, none⟩ = some (.int .i64 a) := by simp [go_sem]
        have x3 : (w.alloc (.cells #[.int .i64 2, .slice ao n cap, .int .i64 a, .int .i64 b] 62)).cell? ⟨w.heap.size, 3, none⟩ = some (.int .i64 b) := by simp [go_sem]
        go_enter Tryd.func84, Tryd.ntmps84
        go_wp2_with fail
        refine wp_region_held_drew (S := fun w' => w'.cell? ⟨w.heap.size, 1, none⟩ = some (.slice ao n cap)) (by kernel_rfl) x1 (fun hS => ?_)
        refine takeH 0 (some 30) (.pointer (some ⟨w.heap.size, 1, none⟩)) rfl rfl (by kernel_rfl) (by kernel_rfl) (by kernel_rfl) (fun _ _ _ h => h) (by rfl) hS (fun w hSw => by go_simp) ?_
        simp only [Act.put, List.setIfInBounds_toArray, List.set_cons_zero, List.set_cons_succ]
        refine takeH 1 (some 31) (.slice ao n cap) rfl rfl (by kernel_rfl) (by kernel_rfl) (by kernel_rfl) (fun _ _ _ h => h) (by rfl) hS (fun w hSw => by go_simp) ?_
        simp only [Act.put, List.setIfInBounds_toArray, List.set_cons_zero, List.set_cons_succ]
        refine takeH 2 (some 32) (.agg #[.slice ao n cap]) rfl rfl (by kernel_rfl) (by kernel_rfl) (by kernel_rfl) (fun _ _ _ h => h) (by rfl) hS (fun w hSw => by go_simp) ?_
        simp only [Act.put, List.setIfInBounds_toArray, List.set_cons_zero, List.set_cons_succ]
        refine takeH 3 (some 33) (.iface 136 (.agg #[.slice ao n cap])) rfl rfl (by kernel_rfl) (by kernel_rfl) (by kernel_rfl) (fun _ _ _ h => h) (by rfl) hS (fun w hSw => by go_simp) ?_
        simp only [Act.put, List.setIfInBounds_toArray, List.set_cons_zero, List.set_cons_succ]
        refine takeH 4 (some 34) (.pointer (some ⟨w.heap.size, 1, none⟩)) rfl rfl (by kernel_rfl) (by kernel_rfl) (by kernel_rfl) (fun _ _ _ h => h) (by rfl) hS (fun w hSw => by go_simp) ?_
        simp only [Act.put, List.setIfInBounds_toArray, List.set_cons_zero, List.set_cons_succ]
        refine takeH 5 (some 35) (.slice ao n cap) rfl rfl (by kernel_rfl) (by kernel_rfl) (by kernel_rfl) (fun _ _ _ h => h) (by rfl) hS (fun w hSw => by go_simp) ?_
        simp only [Act.put, List.setIfInBounds_toArray, List.set_cons_zero, List.set_cons_succ]
        refine step1H 6 _ rfl (by kernel_rfl) (by rfl) ?_
        go_simp
        refine (HBA.out _ hrd).mono ?_
        rintro e w1 ⟨rfl, hb1⟩
        have hS1 := keep_cell hb1 (Nat.le_refl _) x1
        refine ⟨hS1, ?_⟩
        refine takeH 7 (some 37) (.bool false) rfl rfl (by kernel_rfl) (by kernel_rfl) (by kernel_rfl) (fun _ _ _ h => h) (by rfl) hS1 (fun w hSw => by go_simp) ?_
        simp only [Act.put, List.setIfInBounds_toArray, List.set_cons_zero, List.set_cons_succ]
        refine skipH 8 (some 38) rfl rfl (by kernel_rfl) (by kernel_rfl) (by kernel_rfl) (fun _ _ _ h => h) (by rfl) hS1 ?_
        simp only [Act.put, List.setIfInBounds_toArray, List.set_cons_zero, List.set_cons_succ]
        refine takeH 9 (some 39) (.bool false) rfl rfl (by kernel_rfl) (by kernel_rfl) (by kernel_rfl) (fun _ _ _ h => h) (by rfl) hS1 (fun w hSw => by go_simp) ?_
        simp only [Act.put, List.setIfInBounds_toArray, List.set_cons_zero, List.set_cons_succ]
        refine takeH 10 (some 2) (.iface 136 (.agg #[.slice ao n cap])) rfl rfl (by kernel_rfl) (by kernel_rfl) (by kernel_rfl) (fun _ _ _ h => h) (by rfl) hS1 (fun w hSw => by go_simp) ?_
        simp only [Act.put, List.setIfInBounds_toArray, List.set_cons_zero, List.set_cons_succ]
        refine takeH 11 (some 3) (.bool false) rfl rfl (by kernel_rfl) (by kernel_rfl) (by kernel_rfl) (fun _ _ _ h => h) (by rfl) hS1 (fun w hSw => by go_simp) ?_
        simp only [Act.put, List.setIfInBounds_toArray, List.set_cons_zero, List.set_cons_succ]
        refine wpAnyH_done (by kernel_rfl) ?_ _
        all_goals
          go_wp2
          exact bodyPost_ret (v := .tuple #[.iface 136 (.agg #[.slice ao n cap]), .bool false]) (by simp [results, Tryd.results84, go_sem, ha]) rfl ⟨rfl, below_next hal.drew (Nat.le_refl _) hb1⟩

set_option maxRecDepth 100000 in
set_option maxHeartbeats 4000000 in
theorem deedOf_3 (ao : Option Addr) (n cap : Nat) (F T G : Nat → Int) (a b : Int) (hn : n ≤ 1048576) (w : World) (hr : Row w ao n F T G) :
    Calls Tryd.prog 84 #[.agg #[.int .i64 3, .slice ao n cap, .int .i64 a, .int .i64 b]] w fun e w' => e = .returned (.tuple #[deedV 3 ao n cap a b, .bool (cmdB 3 n F T G a b)]) ∧ Below w.heap.size w w' := by
  · skip
    have hd : deedV 3 ao n cap a b = .iface 138 (.agg #[.int .i64 a, .int .i64 b]) := by simp [deedV]
    rw [hd]
    clear hd
    by_cases hn0 : n = 0
    · subst hn0
      rcases Bool.eq_false_or_eq_true (inB a 0 23) with hai | hai
      · have HQa : Hid (∀ W, Calls Tryd.prog 70 #[.int .i64 a, .int .i64 24] W fun e w' => e = .returned (.bool true) ∧ w' = W) := fun W => (placeOk_any a 24 W).mono (fun e w' h' => ⟨by rw [h'.1, show (24 : Int) - 1 = 23 from rfl, hai], h'.2⟩)
        rcases Bool.eq_false_or_eq_true (inB b 0 23) with hbi | hbi
        · have HQb : Hid (∀ W, Calls Tryd.prog 70 #[.int .i64 b, .int .i64 24] W fun e w' => e = .returned (.bool true) ∧ w' = W) := fun W => (placeOk_any b 24 W).mono (fun e w' h' => ⟨by rw [h'.1, show (24 : Int) - 1 = 23 from rfl, hbi], h'.2⟩)
          by_cases ha : a = 0
          · subst ha
            by_cases hb : b = 0
            · subst hb
              rw [show cmdB 3 0 F T G 0 0 = true from by simp [cmdB, hai, hbi]]
              clear hai hbi
              have hal := (Below.refl w.heap.size w).alloc (Nat.le_refl _) (.cells #[.int .i64 3, .slice ao 0 cap, .int .i64 0, .int .i64 0] 62)
              have hrd := (hr.below hal (Nat.le_refl _)).below (Below.refl _ (w.alloc (.cells #[.int .i64 3, .slice ao 0 cap, .int .i64 0, .int .i64 0] 62))).drew (Nat.le_refl _)
              have x0 : (w.alloc (.cells #[.int .i64 3, .slice ao 0 cap, .int .i64 0, .int .i64 0] 62)).cell? ⟨w.heap.size, 0, none⟩ = some (.int .i64 3) := by simp [go_sem]
              have x1 : (w.alloc (.cells #[.int .i64 3, .slice ao 0 cap, .int .i64 0, .int .i64 0] 62)).cell? ⟨w.heap.size, 1, none⟩ = some (.slice ao 0 cap) := by simp [go_sem]
              have x2 : (w.alloc (.cells #[.int .i64 3, .slice ao 0 cap, .int .i64 0, .int .i64 0] 62)).cell? ⟨w.heap.size, 2, none⟩ = some (.int .i64 0) := by simp [go_sem]
              have x3 : (w.alloc (.cells #[.int .i64 3, .slice ao 0 cap, .int .i64 0, .int .i64 0] 62)).cell? ⟨w.heap.size, 3, none⟩ = some (.int .i64 0) := by simp [go_sem]
              go_enter Tryd.func84, Tryd.ntmps84
              go_wp2_with fail
              go_quiet (first | (go_at_call 70; with_reducible refine Calls.quiet_of_same (HQa.out _)) | (go_at_call 70; with_reducible refine Calls.quiet_of_same (HQb.out _)))
              all_goals
                go_wp2
                exact bodyPost_ret (v := .tuple #[.iface 138 (.agg #[.int .i64 0, .int .i64 0]), .bool true]) (by simp [results, Tryd.results84, go_sem]) rfl ⟨rfl, by first | exact below_drewN hal _ | exact hal.drew | exact hal⟩
            · skip
              rw [show cmdB 3 0 F T G 0 b = true from by simp [cmdB, hai, hbi]]
              clear hai hbi
              have hal := (Below.refl w.heap.size w).alloc (Nat.le_refl _) (.cells #[.int .i64 3, .slice ao 0 cap, .int .i64 0, .int .i64 b] 62)
              have hrd := (hr.below hal (Nat.le_refl _)).below (Below.refl _ (w.alloc (.cells #[.int .i64 3, .slice ao 0 cap, .int .i64 0, .int .i64 b] 62))).drew (Nat.le_refl _)
              have x0 : (w.alloc (.cells #[.int .i64 3, .slice ao 0 cap, .int .i64 0, .int .i64 b] 62)).cell? ⟨w.heap.size, 0, none⟩ = some (.int .i64 3) := by simp [go_sem]
              have x1 : (w.alloc (.cells #[.int .i64 3, .slice ao 0 cap, .int .i64 0, .int .i64 b] 62)).cell? ⟨w.heap.size, 1, none⟩ = some (.slice ao 0 cap) := by simp [go_sem]
              have x2 : (w.alloc (.cells #[.int .i64 3, .slice ao 0 cap, .int .i64 0, .int .i64 b] 62)).cell? ⟨w.heap.size, 2, none⟩ = some (.int .i64 0) := by simp [go_sem]
              have x3 : (w.alloc (.cells #[.int .i64 3, .slice ao 0 cap, .int .i64 0, .int .i64 b] 62)).cell? ⟨w.heap.size, 3, none⟩ = some (.int .i64 b) := by simp [go_sem]
              go_enter Tryd.func84, Tryd.ntmps84
              go_wp2_with fail
              go_quiet (first | (go_at_call 70; with_reducible refine Calls.quiet_of_same (HQa.out _)) | (go_at_call 70; with_reducible refine Calls.quiet_of_same (HQb.out _)))
              all_goals
                go_wp2
                exact bodyPost_ret (v := .tuple #[.iface 138 (.agg #[.int .i64 0, .int .i64 b]), .bool true]) (by simp [results, Tryd.results84, go_sem, hb]) rfl ⟨rfl, by first | exact below_drewN hal _ | exact hal.drew | exact hal⟩
          · skip
            rw [show cmdB 3 0 F T G a b = true from by simp [cmdB, hai, hbi]]
            clear hai hbi
            have hal := (Below.refl w.heap.size w).alloc (Nat.le_refl _) (.cells #[.int .i64 3, .slice ao 0 cap, .int .i64 a, .int .i64 b] 62)
            have hrd := (hr.below hal (Nat.le_refl _)).below (Below.refl _ (w.alloc (.cells #[.int .i64 3, .slice ao 0 cap, .int .i64 a, .int .i64 b] 62))).drew (Nat.le_refl _)
            have x0 : (w.alloc (.cells #[.int .i64 3, .slice ao 0 cap, .int .i64 a, .int .i64 b] 62)).cell? ⟨w.heap.size, 0, none⟩ = some (.int .i64 3) := by simp [go_sem]
            have x1 : (w.alloc (.cells #[.int .i64 3, .slice ao 0 cap, .int .i64 a, .int .i64 b] 62)).cell? ⟨w.heap.size, 1, none⟩ = some (.slice ao 0 cap) := by simp [go_sem]
            have x2 : (w.alloc (.cells #[.int .i64 3, .slice ao 0 cap, .int .i64 a, .int .i64 b] 62)).cell? ⟨w.heap.size, 2, none⟩ = some (.int .i64 a) := by simp [go_sem]
            have x3 : (w.alloc (.cells #[.int .i64 3, .slice ao 0 cap, .int .i64 a, .int .i64 b] 62)).cell? ⟨w.heap.size, 3, none⟩ = some (.int .i64 b) := by simp [go_sem]
            go_enter Tryd.func84, Tryd.ntmps84
            go_wp2_with fail
            go_quiet (first | (go_at_call 70; with_reducible refine Calls.quiet_of_same (HQa.out _)) | (go_at_call 70; with_reducible refine Calls.quiet_of_same (HQb.out _)))
            all_goals
              go_wp2
              exact bodyPost_ret (v := .tuple #[.iface 138 (.agg #[.int .i64 a, .int .i64 b]), .bool true]) (by simp [results, Tryd.results84, go_sem, ha]) rfl ⟨rfl, by first | exact below_drewN hal _ | exact hal.drew | exact hal⟩
        · have HQb : Hid (∀ W, Calls Tryd.prog 70 #[.int .i64 b, .int .i64 24] W fun e w' => e = .returned (.bool false) ∧ w' = W) := fun W => (placeOk_any b 24 W).mono (fun e w' h' => ⟨by rw [h'.1, show (24 : Int) - 1 = 23 from rfl, hbi], h'.2⟩)
          have hb : ¬ b = 0 := fun e => by subst e; simp [inB] at hbi
          by_cases ha : a = 0
          · subst ha
            rw [show cmdB 3 0 F T G 0 b = false from by simp [cmdB, hai, hbi]]
            clear hai hbi
            have hal := (Below.refl w.heap.size w).alloc (Nat.le_refl _) (.cells #[.int .i64 3, .slice ao 0 cap, .int .i64 0, .int .i64 b] 62)
            have hrd := (hr.below hal (Nat.le_refl _)).below (Below.refl _ (w.alloc (.cells #[.int .i64 3, .slice ao 0 cap, .int .i64 0, .int .i64 b] 62))).drew (Nat.le_refl _)
            have x0 : (w.alloc (.cells #[.int .i64 3, .slice ao 0 cap, .int .i64 0, .int .i64 b] 62)).cell? ⟨w.heap.size, 0, none⟩ = some (.int .i64 3) := by simp [go_sem]
            have x1 : (w.alloc (.cells #[.int .i64 3, .slice ao 0 cap, .int .i64 0, .int .i64 b] 62)).cell? ⟨w.heap.size, 1, none⟩ = some (.slice ao 0 cap) := by simp [go_sem]
            have x2 : (w.alloc (.cells #[.int .i64 3, .slice ao 0 cap, .int .i64 0, .int .i64 b] 62)).cell? ⟨w.heap.size, 2, none⟩ = some (.int .i64 0) := by simp [go_sem]
            have x3 : (w.alloc (.cells #[.int .i64 3, .slice ao 0 cap, .int .i64 0, .int .i64 b] 62)).cell? ⟨w.heap.size, 3, none⟩ = some (.int .i64 b) := by simp [go_sem]
            go_enter Tryd.func84, Tryd.ntmps84
            go_wp2_with fail
            go_quiet (first | (go_at_call 70; with_reducible refine Calls.quiet_of_same (HQa.out _)) | (go_at_call 70; with_reducible refine Calls.quiet_of_same (HQb.out _)))
            all_goals
              go_wp2
              exact bodyPost_ret (v := .tuple #[.iface 138 (.agg #[.int .i64 0, .int .i64 b]), .bool false]) (by simp [results, Tryd.results84, go_sem, hb]) rfl ⟨rfl, by first | exact below_drewN hal _ | exact hal.drew | exact hal⟩
          · skip
            rw [show cmdB 3 0 F T G a b = false from by simp [cmdB, hai, hbi]]
            clear hai hbi
            have hal := (Below.refl w.heap.size w).alloc (Nat.le_refl _) (.cells #[.int .i64 3, .slice ao 0 cap, .int .i64 a, .int .i64 b] 62)
            have hrd := (hr.below hal (Nat.le_refl _)).below (Below.refl _ (w.alloc (.cells #[.int .i64 3, .slice ao 0 cap, .int .i64 a, .int .i64 b] 62))).drew (Nat.le_refl _)
            have x0 : (w.alloc (.cells #[.int .i64 3, .slice ao 0 cap, .int .i64 a, .int .i64 b] 62)).cell? ⟨w.heap.size, 0, none⟩ = some (.int .i64 3) := by simp [go_sem]
            have x1 : (w.alloc (.cells #[.int .i64 3, .slice ao 0 cap, .int .i64 a, .int .i64 b] 62)).cell? ⟨w.heap.size, 1, none⟩ = some (.slice ao 0 cap) := by simp [go_sem]
            have x2 : (w.alloc (.cells #[.int .i64 3, .slice ao 0 cap, .int .i64 a, .int .i64 b] 62)).cell? ⟨w.heap.size, 2, none⟩ = some (.int .i64 a) := by simp [go_sem]
            have x3 : (w.alloc (.cells #[.int .i64 3, .slice ao 0 cap, .int .i64 a, .int .i64 b] 62)).cell? ⟨w.heap.size, 3, none⟩ = some (.int .i64 b) := by simp [go_sem]
            go_enter Tryd.func84, Tryd.ntmps84
            go_wp2_with fail
            go_quiet (first | (go_at_call 70; with_reducible refine Calls.quiet_of_same (HQa.out _)) | (go_at_call 70; with_reducible refine Calls.quiet_of_same (HQb.out _)))
            all_goals
              go_wp2
              exact bodyPost_ret (v := .tuple #[.iface 138 (.agg #[.int .i64 a, .int .i64 b]), .bool false]) (by simp [results, Tryd.results84, go_sem, ha]) rfl ⟨rfl, by first | exact below_drewN hal _ | exact hal.drew | exact hal⟩
      · have HQa : Hid (∀ W, Calls Tryd.prog 70 #[.int .i64 a, .int .i64 24] W fun e w' => e = .returned (.bool false) ∧ w' = W) := fun W => (placeOk_any a 24 W).mono (fun e w' h' => ⟨by rw [h'.1, show (24 : Int) - 1 = 23 from rfl, hai], h'.2⟩)
        have ha : ¬ a = 0 := fun e => by subst e; simp [inB] at hai
        rw [show cmdB 3 0 F T G a b = false from by simp [cmdB, hai]]
        clear hai
        have hal := (Below.refl w.heap.size w).alloc (Nat.le_refl _) (.cells #[.int .i64 3, .slice ao 0 cap, .int .i64 a, .int .i64 b] 62)
        have hrd := (hr.below hal (Nat.le_refl _)).below (Below.refl _ (w.alloc (.cells #[.int .i64 3, .slice ao 0 cap, .int .i64 a, .int .i64 b] 62))).drew (Nat.le_refl _)
        have x0 : (w.alloc (.cells #[.int .i64 3, .slice ao 0 cap, .int .i64 a, .int .i64 b] 62)).cell? ⟨w.heap.size, 0, none⟩ = some (.int .i64 3) := by simp [go_sem]
        have x1 : (w.alloc (.cells #[.int .i64 3, .slice ao 0 cap, .int .i64 a, .int .i64 b] 62)).cell? ⟨w.heap.size, 1, none⟩ = some (.slice ao 0 cap) := by simp [go_sem]
        have x2 : (w.alloc (.cells #[.int .i64 3, .slice ao 0 cap, .int .i64 a, .int .i64 b] 62)).cell? ⟨w.heap.size, 2, none⟩ = some (.int .i64 a) := by simp [go_sem]
        have x3 : (w.alloc (.cells #[.int .i64 3, .slice ao 0 cap, .int .i64 a, .int .i64 b] 62)).cell? ⟨w.heap.size, 3, none⟩ = some (.int .i64 b) := by simp [go_sem]
        go_enter Tryd.func84, Tryd.ntmps84
        go_wp2_with fail
        go_quiet (first | (go_at_call 70; with_reducible refine Calls.quiet_of_same (HQa.out _)))
        all_goals
          go_wp2
          exact bodyPost_ret (v := .tuple #[.iface 138 (.agg #[.int .i64 a, .int .i64 b]), .bool false]) (by simp [results, Tryd.results84, go_sem, ha]) rfl ⟨rfl, by first | exact below_drewN hal _ | exact hal.drew | exact hal⟩
    · have hn0' : ¬ (n : Int) = 0 := by omega
      by_cases ha : a = 0
      · subst ha
        by_cases hb : b = 0
        · subst hb
          rw [show cmdB 3 n F T G 0 0 = false from by simp [cmdB, hn0]]
          have hal := (Below.refl w.heap.size w).alloc (Nat.le_refl _) (.cells #[.int .i64 3, .slice ao n cap, .int .i64 0, .int .i64 0] 62)
          have hrd := (hr.below hal (Nat.le_refl _)).below (Below.refl _ (w.alloc (.cells #[.int .i64 3, .slice ao n cap, .int .i64 0, .int .i64 0] 62))).drew (Nat.le_refl _)
          have x0 : (w.alloc (.cells #[.int .i64 3, .slice ao n cap, .int .i64 0, .int .i64 0] 62)).cell? ⟨w.heap.size, 0, none⟩ = some (.int .i64 3) := by simp [go_sem]
          have x1 : (w.alloc (.cells #[.int .i64 3, .slice ao n cap, .int .i64 0, .int .i64 0] 62)).cell? ⟨w.heap.size, 1, none⟩ = some (.slice ao n cap) := by simp [go_sem]
          have x2 : (w.alloc (.cells #[.int .i64 3, .slice ao n cap, .int .i64 0, .int .i64 0] 62)).cell? ⟨w.heap.size, 2, none⟩ = some (.int .i64 0) := by simp [go_sem]
          have x3 : (w.alloc (.cells #[.int .i64 3, .slice ao n cap, .int .i64 0, .int .i64 0] 62)).cell? ⟨w.heap.size, 3, none⟩ = some (.int .i64 0) := by simp [go_sem]
          go_enter Tryd.func84, Tryd.ntmps84
          go_wp2_with fail
          go_quiet (fail)
          all_goals
            go_wp2
            exact bodyPost_ret (v := .tuple #[.iface 138 (.agg #[.int .i64 0, .int .i64 0]), .bool false]) (by simp [results, Tryd.results84, go_sem, hn0, hn0']) rfl ⟨rfl, by first | exact below_drewN hal _ | exact hal.drew | exact hal⟩
        · skip
          rw [show cmdB 3 n F T G 0 b = false from by simp [cmdB, hn0]]
          have hal := (Below.refl w.heap.size w).alloc (Nat.le_refl _) (.cells #[.int .i64 3, .slice ao n cap, .int .i64 0, .int .i64 b] 62)
          have hrd := (hr.below hal (Nat.le_refl _)).below (Below.refl _ (w.alloc (.cells #[.int .i64 3, .slice ao n cap, .int .i64 0, .int .i64 b] 62))).drew (Nat.le_refl _)
          have x0 : (w.alloc (.cells #[.int .i64 3, .slice ao n cap, .int .i64 0, .int .i64 b] 62)).cell? ⟨w.heap.size, 0, none⟩ = some (.int .i64 3) := by simp [go_sem]
          have x1 : (w.alloc (.cells #[.int .i64 3, .slice ao n cap, .int .i64 0, .int .i64 b] 62)).cell? ⟨w.heap.size, 1, none⟩ = some (.slice ao n cap) := by simp [go_sem]
          have x2 : (w.alloc (.cells #[.int .i64 3, .slice ao n cap, .int .i64 0, .int .i64 b] 62)).cell? ⟨w.heap.size, 2, none⟩ = some (.int .i64 0) := by simp [go_sem]
          have x3 : (w.alloc (.cells #[.int .i64 3, .slice ao n cap, .int .i64 0, .int .i64 b] 62)).cell? ⟨w.heap.size, 3, none⟩ = some (.int .i64 b) := by simp [go_sem]
          go_enter Tryd.func84, Tryd.ntmps84
          go_wp2_with fail
          go_quiet (fail)
          all_goals
            go_wp2
            exact bodyPost_ret (v := .tuple #[.iface 138 (.agg #[.int .i64 0, .int .i64 b]), .bool false]) (by simp [results, Tryd.results84, go_sem, hn0, hn0', hb]) rfl ⟨rfl, by first | exact below_drewN hal _ | exact hal.drew | exact hal⟩
      · skip
        rw [show cmdB 3 n F T G a b = false from by simp [cmdB, hn0]]
        have hal := (Below.refl w.heap.size w).alloc (Nat.le_refl _) (.cells #[.int .i64 3, .slice ao n cap, .int .i64 a, .int .i64 b] 62)
        have hrd := (hr.below hal (Nat.le_refl _)).below (Below.refl _ (w.alloc (.cells #[.int .i64 3, .slice ao n cap, .int .i64 a, .int .i64 b] 62))).drew (Nat.le_refl _)
        have x0 : (w.alloc (.cells #[.int .i64 3, .slice ao n cap, .int .i64 a, .int .i64 b] 62)).cell? ⟨w.heap.size, 0, none⟩ = some (.int .i64 3) := by simp [go_sem]
        have x1 : (w.alloc (.cells #[.int .i64 3, .slice ao n cap, .int .i64 a, .int .i64 b] 62)).cell? ⟨w.heap.size, 1, none⟩ = some (.slice ao n cap) := by simp [go_sem]
        have x2 : (w.alloc (.cells #[.int .i64 3, .slice ao n cap, .int .i64 a, .int .i64 b] 62)).cell? ⟨w.heap.size, 2, none⟩ = some (.int .i64 a) := by simp [go_sem]
        have x3 : (w.alloc (.cells #[.int .i64 3, .slice ao n cap, .int .i64 a, .int .i64 b] 62)).cell? ⟨w.heap.size, 3, none⟩ = some (.int .i64 b) := by simp [go_sem]
        go_enter Tryd.func84, Tryd.ntmps84
        go_wp2_with fail
        go_quiet (fail)
        all_goals
          go_wp2
          exact bodyPost_ret (v := .tuple #[.iface 138 (.agg #[.int .i64 a, .int .i64 b]), .bool false]) (by simp [results, Tryd.results84, go_sem, hn0, hn0', ha]) rfl ⟨rfl, by first | exact below_drewN hal _ | exact hal.drew | exact hal⟩

set_option maxRecDepth 100000 in
set_option maxHeartbeats 4000000 in
theorem deedOf_0 (K : Int) (ao : Option Addr) (n cap : Nat) (F T G : Nat → Int) (a b : Int) (hn : n ≤ 1048576) (k1 : ¬ K = 1) (k2 : ¬ K = 2) (k3 : ¬ K = 3) (w : World) (hr : Row w ao n F T G) :
    Calls Tryd.prog 84 #[.agg #[.int .i64 K, .slice ao n cap, .int .i64 a, .int .i64 b]] w fun e w' => e = .returned (.tuple #[deedV K ao n cap a b, .bool (cmdB K n F T G a b)]) ∧ Below w.heap.size w w' := by
  have hd : deedV K ao n cap a b = .nilIface := by simp [deedV, k1, k2, k3]
  rw [hd, show cmdB K n F T G a b = false from by simp [cmdB, k1, k2, k3]]
  clear hd
  by_cases ha : a = 0
  · subst ha
    by_cases hb : b = 0
    · subst hb
      go_enter Tryd.func84, Tryd.ntmps84
      go_wp2
      exact bodyPost_ret (v := .tuple #[.nilIface, .bool false]) (by simp [results, Tryd.results84, go_sem]) rfl ⟨rfl, (Below.refl _ _).alloc (Nat.le_refl _) _⟩
    · skip
      go_enter Tryd.func84, Tryd.ntmps84
      go_wp2
      exact bodyPost_ret (v := .tuple #[.nilIface, .bool false]) (by simp [results, Tryd.results84, go_sem]) rfl ⟨rfl, (Below.refl _ _).alloc (Nat.le_refl _) _⟩
  · skip
    go_enter Tryd.func84, Tryd.ntmps84
    go_wp2
    exact bodyPost_ret (v := .tuple #[.nilIface, .bool false]) (by simp [results, Tryd.results84, go_sem]) rfl ⟨rfl, (Below.refl _ _).alloc (Nat.le_refl _) _⟩
theorem deedOf_any (K : Int) (ao : Option Addr) (n cap : Nat) (F T G : Nat → Int) (a b : Int) (hn : n ≤ 1048576) (w : World) (hr : Row w ao n F T G) :
    Calls Tryd.prog 84 #[.agg #[.int .i64 K, .slice ao n cap, .int .i64 a, .int .i64 b]] w fun e w' => e = .returned (.tuple #[deedV K ao n cap a b, .bool (cmdB K n F T G a b)]) ∧ Below w.heap.size w w' := by
  by_cases k1 : K = 1
  · subst k1; exact deedOf_1 ao n cap F T G a b hn w hr
  by_cases k2 : K = 2
  · subst k2; exact deedOf_2 ao n cap F T G a b hn w hr
  by_cases k3 : K = 3
  · subst k3; exact deedOf_3 ao n cap F T G a b hn w hr
  exact deedOf_0 K ao n cap F T G a b hn k1 k2 k3 w hr

set_option maxHeartbeats 1000000 in
theorem implCommandOk_any (K : Int) (ao : Option Addr) (n cap : Nat) (F T G : Nat → Int) (a b : Int) (hn : n ≤ 1048576) (w : World) (hr : Row w ao n F T G) :
    Calls Tryd.prog 65 #[.agg #[.int .i64 K, .slice ao n cap, .int .i64 a, .int .i64 b]] w fun e w' => e = .returned (.bool (cmdB K n F T G a b)) ∧ Below w.heap.size w w' := by
  have hal := (Below.refl w.heap.size w).alloc (Nat.le_refl _) (.cells #[.int .i64 K, .slice ao n cap, .int .i64 a, .int .i64 b] 62)
  go_enter Tryd.func65, Tryd.ntmps65
  go_wp2_with fail
  refine (deedOf_any K ao n cap F T G a b hn _ (hr.below hal (Nat.le_refl _))).mono ?_
  rintro e w1 ⟨rfl, hb1⟩
  go_wp2
  go_ret
  exact ⟨rfl, below_next hal (Nat.le_refl _) hb1⟩

end Go.Proofs.YticckgmkhgnmfaaDoor
