/-
  Memory of the call's own, cell by cell: a block that may be written and whose first cells are known.
-/
import Derived.Test.YticckgmkhgnmfaaDoorBase
set_option linter.unusedVariables false
set_option linter.unusedSimpArgs false
namespace Go.Proofs.YticckgmkhgnmfaaDoor
open Go.RowKit

/-- Block b, of type t, begins with the n cells f and may be written. -/
def VHas (w : World) (b : Nat) (t : TypeId) (n : Nat) (f : Nat → Value) : Prop := ∃ cur : Array Value, w.heap[b]? = some (.cells cur t (0, 0)) ∧ n ≤ cur.size ∧ ∀ j, j < n → cur[j]? = some (f j)
theorem VHas.cell {w : World} {b n : Nat} {t : TypeId} {f : Nat → Value} (h : VHas w b t n f) {j : Nat} (hj : j < n) : w.cell? ⟨b, j, none⟩ = some (f j) := by
  obtain ⟨c, hb, _, hc⟩ := h
  simp [World.cell?, hb, hc j hj]
theorem VHas.frozen {w : World} {b n : Nat} {t : TypeId} {f : Nat → Value} (h : VHas w b t n f) (j : Nat) : w.frozen? ⟨b, j, none⟩ = false := by
  obtain ⟨c, hb, _, _⟩ := h
  simp [World.frozen?, hb]
theorem VHas.lt {w : World} {b n : Nat} {t : TypeId} {f : Nat → Value} (h : VHas w b t n f) : b < w.heap.size := by
  obtain ⟨c, hb, _, _⟩ := h
  exact (Array.getElem?_eq_some_iff.1 hb).1
theorem VHas.of_block {w w' : World} {b n : Nat} {t : TypeId} {f : Nat → Value} (h : VHas w b t n f) (e : w'.heap[b]? = w.heap[b]?) : VHas w' b t n f := by
  obtain ⟨c, hb, hn, hc⟩ := h
  exact ⟨c, e.trans hb, hn, hc⟩
theorem VHas.congr {w : World} {b n : Nat} {t : TypeId} {f g : Nat → Value} (h : VHas w b t n f) (e : ∀ j, j < n → f j = g j) : VHas w b t n g := by
  obtain ⟨c, hb, hn, hc⟩ := h
  exact ⟨c, hb, hn, fun j hj => by rw [hc j hj, e j hj]⟩
theorem VHas.set {w : World} {b n : Nat} {t : TypeId} {f : Nat → Value} (h : VHas w b t n f) (i : Nat) (v : Value) : VHas (w.setCell ⟨b, i, none⟩ v) b t n (fun j => if j = i then v else f j) := by
  obtain ⟨c, hb, hn, hc⟩ := h
  refine ⟨c.setIfInBounds i v, ?_, by simpa using hn, fun j hj => ?_⟩
  · simp [World.setCell, Array.getElem?_modify, hb]
  · rw [Array.getElem?_setIfInBounds]
    by_cases e : j = i
    · subst e
      simp; omega
    · rw [if_neg (fun h => e h.symm)]
      show c[j]? = some (if j = i then v else f j)
      rw [if_neg e]
      exact hc j hj
theorem VHas.other {w : World} {b n c i : Nat} {t : TypeId} {f : Nat → Value} (h : VHas w b t n f) (hne : b ≠ c) (v : Value) : VHas (w.setCell ⟨c, i, none⟩ v) b t n f := h.of_block (Below.heap_setCell _ _ _ _ (fun e => hne (by simpa using e)))
theorem VHas.below {w w' : World} {b n B : Nat} {t : TypeId} {f : Nat → Value} (h : VHas w b t n f) (hb : Below B w w') (hB : b < B) : VHas w' b t n f := h.of_block (hb.block b hB)
theorem VHas.next {w w' : World} {b n : Nat} {t : TypeId} {f : Nat → Value} (h : VHas w b t n f) (hb : Below w.heap.size w w') : VHas w' b t n f := h.below hb h.lt
theorem VHas.alloc {w : World} {b n : Nat} {t : TypeId} {f : Nat → Value} (h : VHas w b t n f) (o : Obj) : VHas (w.alloc o) b t n f := h.next ((Below.refl _ _).alloc (Nat.le_refl _) _)
theorem VHas.grown {w w' : World} {b n : Nat} {t : TypeId} {f : Nat → Value} {row : Option Nat} (h : VHas w b t n f) (hg : w.grownBy w' row) (hne : some b ≠ row) : VHas w' b t n f := h.of_block (hg.block b h.lt hne)
theorem VHas.of_row {w : World} {b n : Nat} {t : TypeId} {f : Nat → Value} (h : w.rowIs b t n f) : VHas w b t n f := by
  obtain ⟨c, hb, hn, hc⟩ := h
  exact ⟨c, hb, by omega, hc⟩

end Go.Proofs.YticckgmkhgnmfaaDoor
