/-
  What needs no function of the program: cells of an older world in a later one, numbers in bounds, two pairs in their order.
-/
import Derived.Test.YticckgmkhgnmfaaDoorRows
import Derived.WalkKit
import Derived.WalkSpells
import Derived.WalkLawsBesides
import Derived.Deep.RegionHeld3
import Derived.Deep.OwnRows
set_option linter.unusedVariables false
set_option linter.unusedSimpArgs false
namespace Go.Proofs.YticckgmkhgnmfaaDoor
open Go.RowKit

theorem lt_of_cell {w : World} {b o : Nat} {v : Value} (h : w.cell? ⟨b, o, none⟩ = some v) : b < w.heap.size := by
  by_cases hb : b < w.heap.size
  · exact hb
  · simp [World.cell?, Array.getElem?_eq_none (Nat.le_of_not_lt hb)] at h
/-- Behind a call that has turned nothing old: all old cells and marks read as before. -/
theorem bcell {W w1 : World} (hb : Below W.heap.size W w1) : (∀ b o, b < W.heap.size → w1.cell? ⟨b, o, none⟩ = W.cell? ⟨b, o, none⟩) ∧ (∀ b o, b < W.heap.size → w1.frozen? ⟨b, o, none⟩ = W.frozen? ⟨b, o, none⟩) :=
  ⟨fun _ _ h => hb.cell h, fun _ _ h => hb.frozen h⟩
/-- So far k arcs have been copied; behind them all is nought. -/
def upto (f : Nat → Int) (m j : Nat) : Int := if j < m then f j else 0
def inB (x lo hi : Int) : Bool := decide (lo ≤ x) && decide (x ≤ hi)
def upB (f t f' t' : Int) : Bool := decide (f < f') || (f == f' && decide (t < t'))
theorem upB_yes1 {f t f' t' : Int} (h : f < f') : upB f t f' t' = true := by simp [upB, h]
theorem upB_yes2 {f t f' t' : Int} (h : f ≤ f') (h' : f' ≤ f) (ht : t < t') : upB f t f' t' = true := by
  have : f = f' := by omega
  simp [upB, this, ht]
theorem upB_no1 {f t f' t' : Int} (h : f' < f) : upB f t f' t' = false := by simp [upB]; omega
theorem upB_no2 {f t f' t' : Int} (h : f ≤ f') (h' : f' ≤ f) (ht : t' ≤ t) : upB f t f' t' = false := by simp [upB]; omega
theorem ret_bool {a b : Bool} (h : a = b) : Ending.returned (.bool a) = .returned (.bool b) := by rw [h]
/-- Behind the box of its argument a function has turned nothing old. -/
theorem unbox {w w' : World} {o : Obj} {B : Nat} (h : Below B (w.alloc o) w') (hB : w.heap.size ≤ B) : Below w.heap.size w w' :=
  ((Below.refl _ _).alloc (Nat.le_refl _) _).trans (h.mono hB)
theorem three_lt {w wr w1 : World} {o : Obj} {b : Nat} (h : Below (wr.alloc o).heap.size (wr.alloc o) w1) (h1 : w.heap.size < wr.heap.size) (h2 : b < wr.heap.size) : wr.heap.size < w1.heap.size ∧ w.heap.size < w1.heap.size ∧ b < w1.heap.size := by
  have := h.size; simp at this; omega
theorem keep_cell {W W' : World} {B b o : Nat} {v : Value} (hb : Below B W W') (hB : W.heap.size ≤ B) (h : W.cell? ⟨b, o, none⟩ = some v) : W'.cell? ⟨b, o, none⟩ = some v := by
  have := lt_of_cell h
  rw [hb.cell (by simp; omega)]; exact h
theorem below_next {B : Nat} {a W W' : World} (h : Below B a W) (hB : B ≤ a.heap.size) (hb : Below W.heap.size W W') : Below B a W' := h.trans (hb.mono (Nat.le_trans hB h.size))
/-- The box of an argument of two cells, in a later world. -/
theorem box2 {w W : World} {a0 a1 : Value} {t : TypeId} (h : Below (w.heap.size + 1) (w.alloc (.cells #[a0, a1] t)) W) :
    W.cell? ⟨w.heap.size, 0, none⟩ = some a0 ∧ W.cell? ⟨w.heap.size, 1, none⟩ = some a1 ∧ w.heap.size < W.heap.size := by
  refine ⟨by rw [h.cell (by simp)]; simp [go_sem], by rw [h.cell (by simp)]; simp [go_sem], by have := h.size; simp at this; omega⟩
theorem boxed {w W : World} {o : Obj} (h : Below (w.alloc o).heap.size (w.alloc o) W) : Below (w.heap.size + 1) (w.alloc o) W := h.mono (by simp)

end Go.Proofs.YticckgmkhgnmfaaDoor
