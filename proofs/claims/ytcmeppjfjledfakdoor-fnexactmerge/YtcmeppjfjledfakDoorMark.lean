/-
  The laws' marks in an answer's memory, and the look whether they are still held; copies of arcs.
-/
import Derived.Test.YtcmeppjfjledfakDoorHas
import Derived.Deep.AppendLies
set_option linter.unusedVariables false
set_option linter.unusedSimpArgs false
namespace Go.Proofs.YtcmeppjfjledfakDoor
open Go.RowKit Go.Maps
attribute [local go_sem ↓] Go.wp_at_zero Go.wp_at_succ

theorem grown_unbox {w w' : World} {o : Obj} {b : Nat} (h : (w.alloc o).grownBy w' (some b)) : w.grownBy w' (some b) := (World.grownBy_alloc w o _).trans h


/-- The cells of n arcs, one behind the other. -/
def cellsOf (f : Nat → Int) (m : Nat) : List Value := (List.range m).map fun j => .int .i64 (f j)
theorem Row.news {w : World} {b o n : Nat} {F T G : Nat → Int} (hr : Row w (some ⟨b, o, none⟩) n F T G) : ∀ j u, (cellsOf (ar F T G) (n * 3))[j]? = some u → w.cell? ((⟨b, o, none⟩ : Addr).add j) = some u := fun j u hu => by
  have hj : j < n * 3 := by
    have := (List.getElem?_eq_some_iff.1 hu).1
    simpa [cellsOf] using this
  have hu' : u = .int .i64 (ar F T G j) := by
    rw [cellsOf, List.getElem?_map, List.getElem?_range hj] at hu
    simpa using hu.symm
  subst hu'
  obtain ⟨b', o', e, c0, c1, c2⟩ := hr (j / 3) (by omega)
  simp at e
  obtain ⟨rfl, rfl⟩ := e
  rw [Addr.add_mid]
  have h3 : j % 3 = 0 ∨ j % 3 = 1 ∨ j % 3 = 2 := by omega
  unfold ar
  rcases h3 with h | h | h
  · rw [if_pos h, ← c0]; congr 2; omega
  · rw [if_neg (by omega), if_pos h, ← c1]; congr 2; omega
  · rw [if_neg (by omega), if_neg (by omega), ← c2]; congr 2; omega
theorem cellsOf_one (f : Nat → Int) (m : Nat) : ∀ u ∈ cellsOf f m, u.oneCell' = true := fun u hu => by
  simp [cellsOf] at hu
  obtain ⟨_, _, rfl⟩ := hu
  rfl

end Go.Proofs.YtcmeppjfjledfakDoor
