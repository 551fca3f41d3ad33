/-
  The boxes of Customize's arguments and answer.
-/
import Derived.Test.YtokaechbmnbbiabGreatPack11
import Derived.Test.YtokaechbmnbbiabGreatCusSP
set_option linter.unusedVariables false
set_option linter.unusedSimpArgs false
namespace Go.Proofs.YtokaechbmnbbiabGreat
open Go.RowKit Go.Deep Go.Joins Go.Maps
attribute [local go_sem ↓] Go.wp_at_zero Go.wp_at_succ

/-- The boxes of two arguments and of a metric that is answered. -/
structure B3 (w : World) (c0 c1 c2 c3 : Value) (W : World) : Prop where
  bel : Below w.heap.size w W
  g0 : W.cell? ⟨w.heap.size, 0, none⟩ = some c0
  g1 : W.cell? ⟨w.heap.size, 1, none⟩ = some c1
  h0 : W.cell? ⟨w.heap.size + 1, 0, none⟩ = some c2
  h1 : W.cell? ⟨w.heap.size + 1, 1, none⟩ = some c3
  res : VHas W (w.heap.size + 2) 34 2 (me2 (.slice none 0 0) (.slice none 0 0))
theorem B3.next {w : World} {c0 c1 c2 c3 : Value} {W W' : World} (h : B3 w c0 c1 c2 c3 W) (hb : Below W.heap.size W W') : B3 w c0 c1 c2 c3 W' :=
  ⟨below_next h.bel (Nat.le_refl _) hb, keep_cell hb (Nat.le_refl _) h.g0, keep_cell hb (Nat.le_refl _) h.g1, keep_cell hb (Nat.le_refl _) h.h0, keep_cell hb (Nat.le_refl _) h.h1, h.res.next hb⟩
theorem b3_new (w : World) (c0 c1 c2 c3 : Value) : B3 w c0 c1 c2 c3 (((w.alloc (.cells #[c0, c1] 26)).alloc (.cells #[c2, c3] 30)).alloc (.cells #[.slice none 0 0, .slice none 0 0] 34)) := by
  refine ⟨(((Below.refl _ w).alloc (Nat.le_refl _) _).alloc (by simp) _).alloc (by simp; omega) _, by simp [go_sem], by simp [go_sem], by simp [go_sem], by simp [go_sem], ?_⟩
  have := me2_new ((w.alloc (.cells #[c0, c1] 26)).alloc (.cells #[c2, c3] 30)) (.slice none 0 0) (.slice none 0 0)
  simpa using this

end Go.Proofs.YtokaechbmnbbiabGreat
