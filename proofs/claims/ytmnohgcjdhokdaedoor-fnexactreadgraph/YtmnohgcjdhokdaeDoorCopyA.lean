/-
  Copies of arcs, the laws' own.
-/
import Derived.Test.YtmnohgcjdhokdaeDoorSmall
set_option linter.unusedVariables false
set_option linter.unusedSimpArgs false
namespace Go.Proofs.YtmnohgcjdhokdaeDoor
open Go.RowKit

theorem toArc_any (f t g : Int) (w : World) :
    Calls Tryd.prog 30 #[.agg #[.int .i64 f, .int .i64 t, .int .i64 g]] w fun e w' => e = .returned (.agg #[.int .i64 f, .int .i64 t, .int .i64 g]) ∧ Below w.heap.size w w' := by
  go_enter Tryd.func30, Tryd.ntmps30
  go_wp2
  simp [bodyPost, results, Tryd.results30, go_sem]
  exact (((Below.refl _ _).alloc (Nat.le_refl _) _).alloc (by simp) _).alloc (by simp; omega) _
set_option maxHeartbeats 400000 in
theorem toArcS_any (ao : Option Addr) (n cap : Nat) (F T G : Nat → Int) (hn : n ≤ 1048576) (w : World) (hr : Row w ao n F T G) :
    Calls Tryd.prog 17 #[.slice ao n cap] w fun e w' => e = .returned (.slice (some ⟨w.heap.size, 0, none⟩) n n) ∧ Own w' w.heap.size n (ar F T G) ∧ Below w.heap.size w w' := by
  have hmk := make_arcs n hn
  go_enter Tryd.func17, Tryd.ntmps17
  go_wp2
  clear hmk
  go_loopw [4] (fun i wr => ∃ k : Nat, k ≤ n ∧ i = .int .i64 k ∧ Own wr w.heap.size n (upto (ar F T G) (k * 3)) ∧ Below w.heap.size w wr) (fun i _ => n - (intOf i).toNat)
  case atStart => exact ⟨0, Nat.zero_le _, rfl, made_own w n _, (Below.refl _ _).alloc (Nat.le_refl _) _⟩
  case round =>
    obtain ⟨k, hk, rfl, hown, hbel⟩ := hrel
    by_cases hlt : k < n
    · obtain ⟨b, o, hao, c0, c1, c2⟩ := (hr.below hbel (Nat.le_refl _)) k hlt
      subst hao
      go_wp2_with (go_at_call 30; refine (toArc_any (F k) (T k) (G k) _).mono ?_; rintro e w1 ⟨rfl, hb1⟩; have d0 := World.rowIs.cell (hown.below hb1) (i := k * 3) (by omega); have d1 := World.rowIs.cell (hown.below hb1) (i := k * 3 + 1) (by omega); have d2 := World.rowIs.cell (hown.below hb1) (i := k * 3 + 2) (by omega); have z0 := World.rowIs.frozen (hown.below hb1) (k * 3); have z1 := World.rowIs.frozen (hown.below hb1) (k * 3 + 1); have z2 := World.rowIs.frozen (hown.below hb1) (k * 3 + 2))
      have R := (hown.below hb1).three hlt
      have S := hbel.trans (hb1.mono hbel.size)
      clear d0 d1 d2 z0 z1 z2 hown hb1 hbel
      go_roundw
      case rel => exact ⟨k + 1, by omega, by go_num, R, ((S.setCell (Nat.le_refl _) _).setCell (Nat.le_refl _) _).setCell (Nat.le_refl _) _⟩
      case measure => simp [intOf]; omega
    · have hkn : k = n := by omega
      subst hkn
      go_wp2
      go_ret
      exact ⟨rfl, World.rowIs.congr hown (fun j hj => by simp [upto, hj]), hbel⟩
theorem szArcS_in (ao : Option Addr) (n cap : Nat) (l : Int) (h0 : (n : Int) ≤ l) (hl : l ≤ 1048576) (w : World) :
    Calls Tryd.prog 14 #[.slice ao n cap, .int .i64 l] w fun e w' => e = .returned (.int .i64 (l - n)) ∧ w' = w := by
  go_enter Tryd.func14, Tryd.ntmps14
  go_wp2
  go_ret
  exact ⟨rfl, rfl⟩
theorem szArcS_out (ao : Option Addr) (n cap : Nat) (l : Int) (h0 : l < (n : Int)) (h1 : 0 ≤ l) (hl : l ≤ 1048576) (hn : n ≤ 9223372036854775807) (w : World) :
    Calls Tryd.prog 14 #[.slice ao n cap, .int .i64 l] w fun e w' => e = .returned (.int .i64 (-1)) ∧ w' = w := by
  go_enter Tryd.func14, Tryd.ntmps14
  go_wp2
  go_ret
  exact ⟨rfl, rfl⟩

end Go.Proofs.YtmnohgcjdhokdaeDoor
