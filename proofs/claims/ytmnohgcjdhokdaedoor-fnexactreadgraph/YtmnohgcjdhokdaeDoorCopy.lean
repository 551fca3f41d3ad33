/-
  What the laws' own helpers of chapter 1 do: the size that is counted, the copies that are made. For every list of at most 2^20 arcs.
-/
import Derived.Test.YtmnohgcjdhokdaeDoorSmall
import Derived.Test.YtmnohgcjdhokdaeDoorCopyA
set_option linter.unusedVariables false
set_option linter.unusedSimpArgs false
namespace Go.Proofs.YtmnohgcjdhokdaeDoor
open Go.RowKit

/-- A copy of a map: its arcs in new memory of the call's own. -/
theorem toGraph_any (p : Int) (ao : Option Addr) (n cap : Nat) (F T G : Nat → Int) (hn : n ≤ 1048576) (w : World) (hr : Row w ao n F T G) :
    Calls Tryd.prog 7 #[.agg #[.int .i64 p, .slice ao n cap]] w fun e w' => ∃ b, e = .returned (.agg #[.int .i64 p, .slice (some ⟨b, 0, none⟩) n n]) ∧ w.heap.size ≤ b ∧ Own w' b n (ar F T G) ∧ Below w.heap.size w w' := by
  go_enter Tryd.func7, Tryd.ntmps7
  go_wp2_with (go_at_call 17; refine (toArcS_any ao n cap F T G hn _ (((hr.alloc _).alloc _).alloc _)).mono ?_; rintro e w1 ⟨rfl, hown, hb1⟩; obtain ⟨hc, hf⟩ := bcell hb1; have hz : w.heap.size + 2 < w1.heap.size := by have := hb1.size; simp at this; omega)
  simp [bodyPost, results, Tryd.results7, go_sem, hc, hz]
  have hown' : Own w1 (w.heap.size + 1 + 1 + 1) n (ar F T G) := by simpa using hown
  refine ⟨by omega, World.rowIs.setOther (World.rowIs.setOther (World.rowIs.setOther hown' (by simp) _) (by simp; omega) _) (by simp; omega) _, ?_⟩
  exact (((((((Below.refl _ _).alloc (Nat.le_refl _) _).alloc (by simp) _).alloc (by simp; omega) _).trans (hb1.mono (by simp; omega))).setCell (by simp; omega) _).setCell (by simp) _).setCell (by simp) _
theorem szGraph_in (p : Int) (ao : Option Addr) (n cap : Nat) (l : Int) (h0 : (n : Int) ≤ l) (hl : l ≤ 1048576) (w : World) :
    Calls Tryd.prog 5 #[.agg #[.int .i64 p, .slice ao n cap], .int .i64 l] w fun e w' => e = .returned (.int .i64 (l - n)) ∧ Below w.heap.size w w' := by
  go_enter Tryd.func5, Tryd.ntmps5
  go_wp2_with (go_at_call 14; refine (szArcS_in ao n cap l h0 hl _).mono ?_; rintro e w1 ⟨rfl, rfl⟩)
  go_ret
  exact ⟨rfl, (Below.refl _ _).alloc (Nat.le_refl _) _⟩
theorem szGraph_out (p : Int) (ao : Option Addr) (n cap : Nat) (l : Int) (h0 : l < (n : Int)) (h1 : 0 ≤ l) (hl : l ≤ 1048576) (hn : n ≤ 9223372036854775807) (w : World) :
    Calls Tryd.prog 5 #[.agg #[.int .i64 p, .slice ao n cap], .int .i64 l] w fun e w' => e = .returned (.int .i64 (-1)) ∧ Below w.heap.size w w' := by
  go_enter Tryd.func5, Tryd.ntmps5
  go_wp2_with (go_at_call 14; refine (szArcS_out ao n cap l h0 h1 hl hn _).mono ?_; rintro e w1 ⟨rfl, rfl⟩)
  go_ret
  exact ⟨rfl, (Below.refl _ _).alloc (Nat.le_refl _) _⟩

end Go.Proofs.YtmnohgcjdhokdaeDoor
