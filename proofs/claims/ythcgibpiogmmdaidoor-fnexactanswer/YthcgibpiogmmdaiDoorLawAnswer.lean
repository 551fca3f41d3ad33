/-
  The law FnExactAnswer, walked: it answers true at every map and every two places. Its premise here: the library's table of powers of ten reads as it is laid.
-/
import Derived.Test.YthcgibpiogmmdaiDoorAnr
import Derived.Test.YthcgibpiogmmdaiDoorOpen
import Derived.Deep.RegionHeld3
set_option linter.unusedVariables false
set_option linter.unusedSimpArgs false
namespace Go.Proofs.YthcgibpiogmmdaiDoor
open Go.ChangeShapes Go.WideShapes Go.ChangeAt Go.RowKit Go.Deep Go.Joins
attribute [local go_sem ↓] Go.wp_at_zero Go.wp_at_succ

theorem boxA {w W : World} {a0 a1 : Value} {t : TypeId} (h : Below (w.heap.size + 1) (w.alloc (.cells #[a0, a1] t)) W) :
    W.cell? ⟨w.heap.size, 0, none⟩ = some a0 ∧ W.cell? ⟨w.heap.size, 1, none⟩ = some a1 ∧ w.heap.size < W.heap.size := by
  refine ⟨by rw [h.cell (by simp)]; simp [go_sem], by rw [h.cell (by simp)]; simp [go_sem], by have := h.size; simp at this; omega⟩

set_option maxRecDepth 20000 in
set_option maxHeartbeats 1600000 in
theorem lawAnswer_walk (p : Int) (ao : Option Addr) (n cap : Nat) (F T G : Nat → Int) (a b : Int) (hn : n ≤ maxLen) (w : World) (ht : Tab w) (hr : Row w ao n F T G) :
    Calls Tryd.prog 3 #[.agg #[.int .i64 p, .slice ao n cap], .int .i64 a, .int .i64 b] w fun e w' => e = .returned (.bool true) ∧ Below w.heap.size w w' := by
  unfold maxLen at hn
  by_cases hbig : 1048576 < n
  · go_enter Tryd.func3, Tryd.ntmps3
    go_wp2_with (go_at_call 4; refine (szGraph_out p ao n cap 1048576 (by omega) (by omega) (by omega) (by omega) _).mono ?_; rintro e w1 ⟨rfl, hb1⟩)
    go_ret
    exact ⟨rfl, unbox hb1 (by simp)⟩
  have hn' : n ≤ 1048576 := by omega
  obtain ⟨t, hT⟩ : ∃ t, dT (lenD p n F T G a) (listD p n F T G a) b = t := ⟨_, rfl⟩
  have hs := fun ao' cap' W h => specAnswer_any p ao' n cap' F T G a b hn' W h
  have hi := fun ao' cap' W h0 h => implAnswer_any p ao' n cap' F T G a b hn' W h0 h
  rw [hT] at hs hi
  have HS : Hid (∀ ao' cap' W, Row W ao' n F T G → Calls Tryd.prog 5 #[.agg #[.int .i64 p, .slice ao' n cap'], .int .i64 a, .int .i64 b] W fun e w' => e = .returned (txt t) ∧ Below W.heap.size W w') := hs
  have HI : Hid (∀ ao' cap' W, Tab W → Row W ao' n F T G → Calls Tryd.prog 7 #[.agg #[.int .i64 p, .slice ao' n cap'], .int .i64 a, .int .i64 b] W fun e w' => e = .returned (txt t) ∧ Below W.heap.size W w') := hi
  clear hs hi hT
  go_enter Tryd.func3, Tryd.ntmps3
  go_wp2_with (first | (go_at_call 4; refine (szGraph_in p ao n cap 1048576 (by omega) (by omega) _).mono ?_; rintro e w1 ⟨rfl, hb1⟩; have hA := below_next (Below.refl (w.heap.size + 1) _) (by simp) hb1; obtain ⟨x0, x1, xs⟩ := boxA hA) | (go_at_call 6; refine (toGraph_any p ao n cap F T G hn' _ ((hr.alloc _).below hA (by simp))).mono ?_; rintro e w2 ⟨bN, rfl, hbN, hown, hb2⟩; have hA := below_next hA (by simp) hb2; obtain ⟨x0, x1, xs⟩ := boxA hA) | (go_at_call 5; refine (HS.out _ _ _ hown.row).mono ?_; rintro e w3 ⟨rfl, hb3⟩; have hA := below_next hA (by simp) hb3; obtain ⟨x0, x1, xs⟩ := boxA hA) | (go_at_call 7; refine (HI.out _ _ _ (ht.below (unbox (hA.alloc xs _) (by omega)) (Nat.le_refl _)) (hown.row.alloc _)).mono ?_; rintro e w5 ⟨rfl, hb5⟩; have hA := below_next (hA.alloc xs _) (by simp) hb5))
  have hrow5 := ((hown.row.alloc _).below hb5 (Nat.le_refl _)).below (Below.refl _ w5).drew (Nat.le_refl _)
  have y0 := keep_cell hb5 (Nat.le_refl _) (b := w2.heap.size) (o := 0) (by simp [go_sem]; rfl)
  have y1 := keep_cell hb5 (Nat.le_refl _) (b := w2.heap.size) (o := 1) (by simp [go_sem]; rfl)
  obtain ⟨z0, z1, zs⟩ := boxA hA
  clear hb1 hb2 hb3 hb5 x0 x1
  go_region_held3 (fun w' => w'.cell? ⟨w2.heap.size, 0, none⟩ = some (.int .i64 p) ∧ w'.cell? ⟨w2.heap.size, 1, none⟩ = some (.slice (some ⟨bN, 0, none⟩) n n) ∧ w'.cell? ⟨w.heap.size, 0, none⟩ = some (.int .i64 p) ∧ w'.cell? ⟨w.heap.size, 1, none⟩ = some (.slice ao n cap))
    (first | (go_split_ands; refine ⟨?_, ?_, ?_, ?_⟩ <;> exact keep_cell ‹_› (Nat.le_refl _) (by assumption)) | go_keep)
    (first | (go_at_call 6; refine (toGraph_any p ao n cap F T G hn' _ ((hr.alloc _).below hA.drew (by simp))).mono ?_; rintro e w6 ⟨b6, rfl, hb6', hown6, hb6⟩) | (go_at_call 8; refine (eqGraph_same p _ _ n n n F T G hn' _ (hrow5.below hb6 (Nat.le_refl _)) hown6.row).mono ?_; rintro e w7 ⟨rfl, hb7⟩))
  go_wp2
  go_ret
  exact ⟨rfl, unbox (below_next (below_next hA.drew (by simp) hb6) (by simp) hb7) (by omega)⟩

end Go.Proofs.YthcgibpiogmmdaiDoor
