/-
  Distances, the document's, at every map and every start.
-/
import Derived.Test.YthcgibpiogmmdaiDoorDistSpec
import Derived.Test.YthcgibpiogmmdaiDoorAns
set_option linter.unusedVariables false
set_option linter.unusedSimpArgs false
namespace Go.Proofs.YthcgibpiogmmdaiDoor
open Go.RowKit Go.Maps
attribute [local go_sem ↓] Go.wp_at_zero Go.wp_at_succ

def okD (p : Int) (n : Nat) (F T G : Nat → Int) (s : Int) : Bool := graphB p n F T G && inB s 0 (p - 1)
def lenD (p : Int) (n : Nat) (F T G : Nat → Int) (s : Int) : Nat := if okD p n F T G s then p.toNat else 0
def listD (p : Int) (n : Nat) (F T G : Nat → Int) (s : Int) : Nat → Int := turns F T G n (start s.toNat) p.toNat
theorem lenD_le (p : Int) (n : Nat) (F T G : Nat → Int) (s : Int) : lenD p n F T G s ≤ 24 := by
  unfold lenD
  split
  · next h =>
    simp [okD] at h
    have := graphB_p h.1
    simp [inB] at this
    omega
  · omega
theorem arcs_of {pn n : Nat} {F T G : Nat → Int} (h : arcsB (pn : Int) F T G n = true) : Arcs pn n F T G := fun k hk => by
  have := (arcsB_each n h k hk).1
  simp [arcB, inB] at this
  omega
set_option maxHeartbeats 1000000 in
theorem specDistances_any (p : Int) (ao : Option Addr) (n cap : Nat) (F T G : Nat → Int) (s : Int) (hn : n ≤ 1048576) (w : World) (hr : Row w ao n F T G) :
    Calls Tryd.prog 10 #[.agg #[.int .i64 p, .slice ao n cap], .int .i64 s] w fun e w' => Ans w w' e (lenD p n F T G s) (listD p n F T G s) := by
  rcases Bool.eq_false_or_eq_true (graphB p n F T G) with h | h
  rotate_left
  · have hL : lenD p n F T G s = 0 := by simp [lenD, okD, h]
    rw [hL]
    go_enter Tryd.func10, Tryd.ntmps10
    go_wp2_with (go_at_call 18; refine (specGraphOk_any p ao n cap F T G hn _ (hr.alloc _)).mono ?_; rintro e w1 ⟨rfl, hb1⟩)
    go_ret
    exact ⟨_, _, rfl, fun h => by omega, unbox (hb1.alloc (by have := hb1.size; omega) _) (by simp)⟩
  have hpp : 1 ≤ p ∧ p ≤ 24 := by simpa [inB] using graphB_p h
  obtain ⟨hp1, hp2⟩ := hpp
  rcases Bool.eq_false_or_eq_true (inB s 0 (p - 1)) with h2 | h2
  rotate_left
  · have hL : lenD p n F T G s = 0 := by simp [lenD, okD, h2]
    rw [hL]
    go_enter Tryd.func10, Tryd.ntmps10
    go_wp2_with (first | (go_at_call 18; refine (specGraphOk_any p ao n cap F T G hn _ (hr.alloc _)).mono ?_; rintro e w1 ⟨rfl, hb1⟩; obtain ⟨hc, hf⟩ := bcell hb1) | (go_at_call 11; refine (l1In_any _ _ _ _).mono ?_; rintro e wq ⟨rfl, hq⟩; have hq' := hq.symm; subst hq'; clear hq))
    go_ret
    exact ⟨_, _, rfl, fun h => by omega, unbox (hb1.alloc (by have := hb1.size; omega) _) (by simp)⟩
  have hs0 : 0 ≤ s ∧ s ≤ p - 1 := by simpa [inB] using h2
  obtain ⟨pn, rfl⟩ : ∃ pn : Nat, p = (pn : Int) := ⟨p.toNat, by omega⟩
  obtain ⟨sn, rfl⟩ : ∃ sn : Nat, s = (sn : Int) := ⟨s.toNat, by omega⟩
  have hL : lenD pn n F T G sn = pn := by simp [lenD, okD, h, h2]
  have hD : listD pn n F T G sn = turns F T G n (start sn) pn := by simp [listD]
  rw [hL, hD]
  have harc := arcs_of (graphB_arcs h).2
  have hn1 := (graphB_arcs h).1
  clear hL hD
  go_enter Tryd.func10, Tryd.ntmps10
  go_wp2_with (first | (go_at_call 18; refine (specGraphOk_any pn ao n cap F T G hn _ (hr.alloc _)).mono ?_; rintro e w1 ⟨rfl, hb1⟩; obtain ⟨hc, hf⟩ := bcell hb1) | (go_at_call 11; refine (l1In_any _ _ _ _).mono ?_; rintro e wq ⟨rfl, hq⟩; have hq' := hq.symm; subst hq'; clear hq) | (go_at_call 19; refine (l2Distances_any pn sn ao n cap F T G (by omega) (by omega) (by omega) hn1 harc _ ((hr.alloc _).below hb1 (Nat.le_refl _))).mono ?_; rintro e w2 ⟨g, c, rfl, hg, hI, hb2⟩))
  go_ret
  exact ⟨_, _, rfl, fun _ => ⟨g, rfl, by have := hb1.size; simp at this; omega, hI⟩, unbox (below_next hb1 (Nat.le_refl _) hb2) (by simp)⟩

end Go.Proofs.YthcgibpiogmmdaiDoor
