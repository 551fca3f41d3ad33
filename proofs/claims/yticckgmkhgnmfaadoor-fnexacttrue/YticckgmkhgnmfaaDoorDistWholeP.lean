/-
  Distances, the document's and the program's, at every map and every start: the same list, in new memory.
-/
import Derived.Test.YticckgmkhgnmfaaDoorPack3
import Derived.Test.YticckgmkhgnmfaaDoorDistImplP
set_option linter.unusedVariables false
set_option linter.unusedSimpArgs false
namespace Go.Proofs.YticckgmkhgnmfaaDoor
open Go.RowKit Go.Maps
attribute [local go_sem ↓] Go.wp_at_zero Go.wp_at_succ

set_option maxHeartbeats 1000000 in
theorem implDistances_any (p : Int) (ao : Option Addr) (n cap : Nat) (F T G : Nat → Int) (s : Int) (hn : n ≤ 1048576) (w : World) (hr : Row w ao n F T G) :
    Calls Tryd.prog 69 #[.agg #[.int .i64 p, .slice ao n cap], .int .i64 s] w fun e w' => Ans w w' e (lenD p n F T G s) (listD p n F T G s) := by
  rcases Bool.eq_false_or_eq_true (graphB p n F T G) with h | h
  rotate_left
  · have hL : lenD p n F T G s = 0 := by simp [lenD, okD, h]
    rw [hL]
    go_enter Tryd.func69, Tryd.ntmps69
    go_wp2
    go_step3
    go_wp2_with (go_at_call 38; refine (implGraphOk_any p ao n cap F T G hn _ (hr.alloc _)).mono ?_; rintro e w1 ⟨rfl, hb1⟩)
    rw [Exit.noGoto_ret]
    go_ret
    exact ⟨_, _, rfl, fun h => by omega, unbox (hb1.alloc (by have := hb1.size; omega) _) (by simp)⟩
  have hpp : 1 ≤ p ∧ p ≤ 24 := by simpa [inB] using graphB_p h
  obtain ⟨hp1, hp2⟩ := hpp
  rcases Bool.eq_false_or_eq_true (inB s 0 (p - 1)) with h2 | h2
  rotate_left
  · have hL : lenD p n F T G s = 0 := by simp [lenD, okD, h2]
    rw [hL]
    go_enter Tryd.func69, Tryd.ntmps69
    go_wp2
    go_step3
    go_wp2_with (first | (go_at_call 38; refine (implGraphOk_any p ao n cap F T G hn _ (hr.alloc _)).mono ?_; rintro e w1 ⟨rfl, hb1⟩; obtain ⟨hc, hf⟩ := bcell hb1) | (go_at_call 70; refine (placeOk_any _ _ _).mono ?_; rintro e wq ⟨rfl, hq⟩; have hq' := hq.symm; subst hq'; clear hq))
    rw [Exit.noGoto_ret]
    go_ret
    exact ⟨_, _, rfl, fun h => by omega, unbox (hb1.alloc (by have := hb1.size; omega) _) (by simp)⟩
  have hs0 : 0 ≤ s ∧ s ≤ p - 1 := by simpa [inB] using h2
  obtain ⟨pn, rfl⟩ : ∃ pn : Nat, p = (pn : Int) := ⟨p.toNat, by omega⟩
  obtain ⟨sn, rfl⟩ : ∃ sn : Nat, s = (sn : Int) := ⟨s.toNat, by omega⟩
  have hL : lenD pn n F T G sn = pn := by simp [lenD, okD, h, h2]
  have hD : listD pn n F T G sn = turns F T G n (start sn) pn := by simp [listD]
  rw [hL, hD]
  have harc := arcs_of (graphB_arcs h).2
  refine (implDist_walk pn sn ao n cap F T G h (by omega) (graphB_arcs h).1 (by omega) (by omega) harc w hr).mono ?_
  rintro e w' ⟨g, c, D, rfl, hg, hI, hS, hb⟩
  exact ⟨_, _, rfl, fun _ => ⟨g, rfl, hg, hI.congr (fun j hj => (turns_sol harc hS j hj).symm)⟩, hb⟩

end Go.Proofs.YticckgmkhgnmfaaDoor
