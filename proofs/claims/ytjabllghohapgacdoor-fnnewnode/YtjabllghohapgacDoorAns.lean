/-
  A list of numbers that is answered, in new memory.
-/
import Derived.Test.YtjabllghohapgacDoorInts
set_option linter.unusedVariables false
set_option linter.unusedSimpArgs false
namespace Go.Proofs.YtjabllghohapgacDoor
open Go.RowKit

/-- A list that is answered: of the call's own. -/
def Ans (w w' : World) (e : Ending) (m : Nat) (D : Nat → Int) : Prop := ∃ ao cap, e = .returned (.slice ao m cap) ∧ (0 < m → ∃ g, ao = some ⟨g, 0, none⟩ ∧ w.heap.size ≤ g ∧ IHas w' g m D) ∧ Below w.heap.size w w'

theorem ans_of {w w' : World} {e : Ending} {m m' : Nat} {D : Nat → Int} (h : m = m') (H : Ans w w' e m' D) : Ans w w' e m D := by rw [h]; exact H

end Go.Proofs.YtjabllghohapgacDoor
