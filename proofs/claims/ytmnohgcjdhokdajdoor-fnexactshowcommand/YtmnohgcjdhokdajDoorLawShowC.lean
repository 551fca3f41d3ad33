/-
  The law FnExactShowCommand, walked: it answers true at every command. Its premise here: the library's table of powers of ten reads as it is laid.
-/
import Derived.Test.YtmnohgcjdhokdajDoorShowD
import Derived.Test.YtmnohgcjdhokdajDoorCmdLaw
import Derived.Test.YtmnohgcjdhokdajDoorOpenA
import Derived.Lib.SmallJoins
import Derived.Deep.RegionHeld3
set_option linter.unusedVariables false
set_option linter.unusedSimpArgs false
namespace Go.Proofs.YtmnohgcjdhokdajDoor
open Go.ChangeShapes Go.WideShapes Go.ChangeAt Go.RowKit Go.Deep Go.Joins
attribute [local go_sem ↓] Go.wp_at_zero Go.wp_at_succ

theorem Tryd.cellsLCommand : Tryd.prog.cellsOf 24 = 4 := by kernel_rfl
set_option maxHeartbeats 4000000 in
theorem lawShowC_walk (K : Int) (ao : Option Addr) (n cap : Nat) (a b : Int) (F T G : Nat → Int) (hn : n ≤ maxLen) (w : World) (ht : Tab w) (hr : Row w ao n F T G) :
    Calls Tryd.prog 3 #[.agg #[.int .i64 K, .slice ao n cap, .int .i64 a, .int .i64 b]] w fun e w' => e = .returned (.bool true) ∧ Below w.heap.size w w' := by
  unfold maxLen at hn
  have hal := (Below.refl w.heap.size w).alloc (Nat.le_refl _) (.cells #[.int .i64 K, .slice ao n cap, .int .i64 a, .int .i64 b] 24)
  by_cases hbig : 1048576 < n
  · go_enter Tryd.func3, Tryd.ntmps3
    go_wp2_with fail
    refine (szCommand_out K ao n cap a b 1048576 (by omega) (by omega) (by omega) (by omega) _).mono ?_
    rintro e w1 ⟨rfl, hb1⟩
    go_wp2
    go_ret
    exact ⟨rfl, below_next hal (Nat.le_refl _) hb1⟩
  have hn' : n ≤ 1048576 := by omega
  have vA := cm4_new w K (.slice ao n cap) a b 24
  have hrA := hr.below hal (Nat.le_refl _)
  obtain ⟨c, hc⟩ : ∃ c, showC K n F T G a b = c := ⟨_, rfl⟩
  have hs := fun ao' cap' W h => specShowC_any K ao' n cap' a b F T G hn' W h
  have hi := fun ao' cap' W h0 h => implShowC_any K ao' n cap' F T G a b hn' W h0 h
  rw [hc] at hs hi
  have HS : Hid (∀ ao' cap' W, Row W ao' n F T G → Calls Tryd.prog 5 #[.agg #[.int .i64 K, .slice ao' n cap', .int .i64 a, .int .i64 b]] W fun e w' => e = .returned (txt c) ∧ Below W.heap.size W w') := hs
  have HI : Hid (∀ ao' cap' W, Tab W → Row W ao' n F T G → Calls Tryd.prog 7 #[.agg #[.int .i64 K, .slice ao' n cap', .int .i64 a, .int .i64 b]] W fun e w' => e = .returned (txt c) ∧ Below W.heap.size W w') := hi
  clear hs hi hc
  go_enter Tryd.func3, Tryd.ntmps3
  go_wp2_with fail
  generalize (w.alloc (.cells #[.int .i64 K, .slice ao n cap, .int .i64 a, .int .i64 b] 24)) = W0 at hal vA hrA ⊢
  generalize w.heap.size = bA at vA ⊢
  refine (szCommand_in K ao n cap a b 1048576 (by omega) (by omega) _).mono ?_
  rintro e w1 ⟨rfl, hb1⟩
  replace vA := vA.next hb1
  replace hrA := hrA.below hb1 (Nat.le_refl _)
  have x0 : w1.cell? ⟨bA, 0, none⟩ = some (.int .i64 K) := vA.cell (j := 0) (by omega)
  have x1 : w1.cell? ⟨bA, 1, none⟩ = some (.slice ao n cap) := vA.cell (j := 1) (by omega)
  have x2 : w1.cell? ⟨bA, 2, none⟩ = some (.int .i64 a) := vA.cell (j := 2) (by omega)
  have x3 : w1.cell? ⟨bA, 3, none⟩ = some (.int .i64 b) := vA.cell (j := 3) (by omega)
  have hB1 := below_next hal (Nat.le_refl _) hb1
  clear hb1 hal
  go_wp2_with fail
  refine (toCommand_any K ao n cap a b F T G hn' _ hrA).mono ?_
  rintro e w2 ⟨b2, rfl, _, hown2, hb2⟩
  replace vA := vA.next hb2
  replace hrA := hrA.below hb2 (Nat.le_refl _)
  have hB2 := below_next hB1 (Nat.le_refl _) hb2
  clear hb2 hB1 x0 x1 x2 x3
  go_wp2_with fail
  refine (HS.out _ _ _ hown2.row).mono ?_
  rintro e w3 ⟨rfl, hb3⟩
  replace vA := vA.next hb3
  replace hrA := hrA.below hb3 (Nat.le_refl _)
  have hB3 := below_next hB2 (Nat.le_refl _) hb3
  clear hb3 hB2 hown2
  have x0 : w3.cell? ⟨bA, 0, none⟩ = some (.int .i64 K) := vA.cell (j := 0) (by omega)
  have x1 : w3.cell? ⟨bA, 1, none⟩ = some (.slice ao n cap) := vA.cell (j := 1) (by omega)
  have x2 : w3.cell? ⟨bA, 2, none⟩ = some (.int .i64 a) := vA.cell (j := 2) (by omega)
  have x3 : w3.cell? ⟨bA, 3, none⟩ = some (.int .i64 b) := vA.cell (j := 3) (by omega)
  go_wp2_with fail
  refine (toCommand_any K ao n cap a b F T G hn' _ hrA).mono ?_
  rintro e w4 ⟨bN, rfl, _, hown4, hb4⟩
  have hal4 := (Below.refl w4.heap.size w4).alloc (Nat.le_refl _) (.cells #[.int .i64 K, .slice (some ⟨bN, 0, none⟩) n n, .int .i64 a, .int .i64 b] 29)
  have hB4 := below_next hb4 (Nat.le_refl _) hal4
  replace vA := vA.next hB4
  replace hrA := hrA.below hB4 (Nat.le_refl _)
  have hD4 := below_next hB3 (Nat.le_refl _) hB4
  have vX := cm4_new w4 K (.slice (some ⟨bN, 0, none⟩) n n) a b 29
  have hrX := hown4.row.below hal4 (Nat.le_refl _)
  clear hb4 hal4 hB4 hB3 hown4 x0 x1 x2 x3
  go_wp2_with fail
  generalize (w4.alloc (.cells #[.int .i64 K, .slice (some ⟨bN, 0, none⟩) n n, .int .i64 a, .int .i64 b] 29)) = W4 at vA hrA hD4 vX hrX ⊢
  generalize w4.heap.size = bX at vX ⊢
  refine (HI.out _ _ _ (ht.below hD4 (Nat.le_refl _)) hrX).mono ?_
  rintro e w5 ⟨rfl, hb5⟩
  replace vA := vA.next hb5
  replace vX := vX.next hb5
  replace hrA := hrA.below hb5 (Nat.le_refl _)
  replace hrX := hrX.below hb5 (Nat.le_refl _)
  have hD5 := below_next hD4 (Nat.le_refl _) hb5
  clear hb5 hD4
  have x0 : w5.cell? ⟨bA, 0, none⟩ = some (.int .i64 K) := vA.cell (j := 0) (by omega)
  have x1 : w5.cell? ⟨bA, 1, none⟩ = some (.slice ao n cap) := vA.cell (j := 1) (by omega)
  have x2 : w5.cell? ⟨bA, 2, none⟩ = some (.int .i64 a) := vA.cell (j := 2) (by omega)
  have x3 : w5.cell? ⟨bA, 3, none⟩ = some (.int .i64 b) := vA.cell (j := 3) (by omega)
  have y0 : w5.cell? ⟨bX, 0, none⟩ = some (.int .i64 K) := vX.cell (j := 0) (by omega)
  have y1 : w5.cell? ⟨bX, 1, none⟩ = some (.slice (some ⟨bN, 0, none⟩) n n) := vX.cell (j := 1) (by omega)
  have y2 : w5.cell? ⟨bX, 2, none⟩ = some (.int .i64 a) := vX.cell (j := 2) (by omega)
  have y3 : w5.cell? ⟨bX, 3, none⟩ = some (.int .i64 b) := vX.cell (j := 3) (by omega)
  have hrd := hrA.below (Below.refl w5.heap.size w5).drew (Nat.le_refl _)
  have hxd := hrX.below (Below.refl w5.heap.size w5).drew (Nat.le_refl _)
  clear vA vX hrA hrX
  go_wp2_with fail
  go_region_held3 (fun w' => w'.cell? ⟨bA, 0, none⟩ = some (.int .i64 K) ∧ w'.cell? ⟨bA, 1, none⟩ = some (.slice ao n cap) ∧ w'.cell? ⟨bA, 2, none⟩ = some (.int .i64 a) ∧ w'.cell? ⟨bA, 3, none⟩ = some (.int .i64 b) ∧ w'.cell? ⟨bX, 0, none⟩ = some (.int .i64 K) ∧ w'.cell? ⟨bX, 1, none⟩ = some (.slice (some ⟨bN, 0, none⟩) n n) ∧ w'.cell? ⟨bX, 2, none⟩ = some (.int .i64 a) ∧ w'.cell? ⟨bX, 3, none⟩ = some (.int .i64 b))
    (first | (go_split_ands; refine ⟨?_, ?_, ?_, ?_, ?_, ?_, ?_, ?_⟩ <;> first | exact keep_cell hb7 (Nat.le_refl _) (by assumption) | exact keep_cell hb6 (Nat.le_refl _) (by assumption)) | go_keep)
    (first | (go_at_call 6; refine (toCommand_any K ao n cap a b F T G hn' _ hrd).mono ?_; rintro e w6 ⟨b6, rfl, _, hown6, hb6⟩; have hx6 := hxd.below hb6 (Nat.le_refl _)) | (go_at_call 8; refine (eqCommand_same K _ _ n n n a b F T G hn' _ hx6 hown6.row).mono ?_; rintro e w7 ⟨rfl, hb7⟩))
  all_goals
    go_wp2
    go_ret
    exact ⟨rfl, below_next (below_next hD5.drew (Nat.le_refl _) hb6) (Nat.le_refl _) hb7⟩

end Go.Proofs.YtmnohgcjdhokdajDoor
