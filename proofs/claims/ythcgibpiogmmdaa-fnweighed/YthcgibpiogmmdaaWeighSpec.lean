/-
  The document's WeightOf answers 'wOf', for every map.
-/
import Derived.Test.YthcgibpiogmmdaaWeigh
set_option linter.unusedVariables false
set_option linter.unusedSimpArgs false
namespace Go.Proofs.Ythcgibpiogmmdaa
open Go.RowKit Go.Maps

theorem specWeightOf_any (p : Int) (ao : Option Addr) (n cap : Nat) (F T G : Nat → Int) (a c : Int) (hn : n ≤ 1048576) (w : World) (hr : Row w ao n F T G) :
    Calls Try.prog 14 #[.agg #[.int .i64 p, .slice ao n cap], .int .i64 a, .int .i64 c] w fun e w' => e = .returned (.int .i64 (wOf p n F T G a c)) ∧ Below w.heap.size w w' := by
  rcases Bool.eq_false_or_eq_true (graphB p n F T G) with h | h
  · go_enter Try.func14, Try.ntmps14
    go_wp2_with (first | (go_at_call 48; refine (specGraphOk_any p ao n cap F T G hn _ (hr.alloc _)).mono ?_; rintro e w1 ⟨rfl, hb1⟩; obtain ⟨hc, hf⟩ := bcell hb1) | (go_at_call 55; refine (l1Weight_any p ao n cap F T G a c hn (graphB_arcs h).2 _ ((hr.alloc _).below hb1 (Nat.le_refl _))).mono ?_; rintro e w2 ⟨rfl, hb2⟩))
    go_ret
    exact ⟨ret_i64 (by simp [wOf, h]), unbox (below_next hb1 (Nat.le_refl _) hb2) (by simp)⟩
  · go_enter Try.func14, Try.ntmps14
    go_wp2_with (first | (go_at_call 48; refine (specGraphOk_any p ao n cap F T G hn _ (hr.alloc _)).mono ?_; rintro e w1 ⟨rfl, hb1⟩))
    go_ret
    exact ⟨ret_i64 (by simp [wOf, h]), unbox hb1 (by simp)⟩

end Go.Proofs.Ythcgibpiogmmdaa
