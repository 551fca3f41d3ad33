/-
  Memory of the call's own that holds arcs: read, written, and left alone; the laws' marks in it.
-/
import Derived.Test.YtcmeppjfjledfakDoorSmall
import Derived.Test.YtcmeppjfjledfakDoorBase
import Derived.Test.YtcmeppjfjledfakDoorKeys
import Derived.Deep.QuietTactic
import Derived.BigQuiet
import Derived.Deep.DrawnRows
import Derived.Laws.CopyOwn
import Derived.Maps.AppendAt
import Derived.Maps.Range
set_option linter.unusedVariables false
set_option linter.unusedSimpArgs false
namespace Go.Proofs.YtcmeppjfjledfakDoor
open Go.RowKit Go.Maps

/-- Block b begins with n arcs' cells, may be written, and holds the numbers f. -/
def Has (w : World) (b n : Nat) (f : Nat → Int) : Prop := ∃ cur : Array Value, w.heap[b]? = some (.cells cur 95 (0, 0)) ∧ n * 3 ≤ cur.size ∧ ∀ j, j < n * 3 → cur[j]? = some (.int .i64 (f j))

theorem Has.of_own {w : World} {b n : Nat} {f : Nat → Int} (h : Own w b n f) : Has w b n f := by
  obtain ⟨c, hb, hn, hc⟩ := h
  exact ⟨c, hb, by omega, hc⟩
theorem Has.cell {w : World} {b n : Nat} {f : Nat → Int} (h : Has w b n f) {j : Nat} (hj : j < n * 3) : w.cell? ⟨b, j, none⟩ = some (.int .i64 (f j)) := by
  obtain ⟨c, hb, _, hc⟩ := h
  simp [World.cell?, hb, hc j hj]
theorem Has.frozen {w : World} {b n : Nat} {f : Nat → Int} (h : Has w b n f) (j : Nat) : w.frozen? ⟨b, j, none⟩ = false := by
  obtain ⟨c, hb, _, _⟩ := h
  simp [World.frozen?, hb]
theorem Has.lt {w : World} {b n : Nat} {f : Nat → Int} (h : Has w b n f) : b < w.heap.size := by
  obtain ⟨c, hb, _, _⟩ := h
  exact (Array.getElem?_eq_some_iff.1 hb).1
theorem Has.of_block {w w' : World} {b n : Nat} {f : Nat → Int} (h : Has w b n f) (e : w'.heap[b]? = w.heap[b]?) : Has w' b n f := by
  obtain ⟨c, hb, hn, hc⟩ := h
  exact ⟨c, e.trans hb, hn, hc⟩
theorem Has.congr {w : World} {b n : Nat} {f g : Nat → Int} (h : Has w b n f) (e : ∀ j, j < n * 3 → f j = g j) : Has w b n g := by
  obtain ⟨c, hb, hn, hc⟩ := h
  exact ⟨c, hb, hn, fun j hj => by rw [hc j hj, e j hj]⟩
theorem Has.set {w : World} {b n : Nat} {f : Nat → Int} (h : Has w b n f) (i : Nat) (v : Int) : Has (w.setCell ⟨b, i, none⟩ (.int .i64 v)) b n (fun j => if j = i then v else f j) := by
  obtain ⟨c, hb, hn, hc⟩ := h
  refine ⟨c.setIfInBounds i (.int .i64 v), ?_, by simpa using hn, fun j hj => ?_⟩
  · simp [World.setCell, Array.getElem?_modify, hb]
  · rw [Array.getElem?_setIfInBounds]
    by_cases e : j = i
    · subst e
      simp; omega
    · rw [if_neg (fun h => e h.symm)]
      show c[j]? = some (.int .i64 (if j = i then v else f j))
      rw [if_neg e]
      exact hc j hj
theorem Has.row {w : World} {b n : Nat} {F T G : Nat → Int} (h : Has w b n (ar F T G)) : Row w (some ⟨b, 0, none⟩) n F T G := fun k hk => by
  refine ⟨b, 0, rfl, ?_, ?_, ?_⟩
  · have := h.cell (j := k * 3) (by omega); rw [ar0] at this; simpa using this
  · have := h.cell (j := k * 3 + 1) (by omega); rw [ar1] at this; simpa using this
  · have := h.cell (j := k * 3 + 2) (by omega); rw [ar2] at this; simpa using this
theorem Has.below {w w' : World} {b n B : Nat} {f : Nat → Int} (h : Has w b n f) (hb : Below B w w') (hB : b < B) : Has w' b n f := h.of_block (hb.block b hB)
theorem Has.grown {w w' : World} {b n : Nat} {f : Nat → Int} {row : Option Nat} (h : Has w b n f) (hg : w.grownBy w' row) (hne : some b ≠ row) : Has w' b n f := h.of_block (hg.block b h.lt hne)

theorem grown_setCell (w : World) (b o : Nat) (v : Value) : w.grownBy (w.setCell ⟨b, o, none⟩ v) (some b) :=
  ⟨rfl, rfl, rfl, by simp [World.setCell], fun k _ hne => Below.heap_setCell _ _ _ _ (fun e => hne (by rw [e]))⟩
theorem grown_below {w w' : World} {b B : Nat} (h : w.grownBy w' (some b)) (hb : B ≤ b) (hB : B ≤ w.heap.size) : Below B w w' :=
  ⟨h.os, h.tape, h.output, h.size, fun k hk => h.block k (by omega) (fun e => by simp at e; omega)⟩
theorem below_grown {w w' : World} {row : Option Nat} (h : Below w.heap.size w w') : w.grownBy w' row := ⟨h.os, h.tape, h.output, h.size, fun k hk _ => h.block k hk⟩
theorem grown_drew (w : World) (row : Option Nat) : w.grownBy w.drew row := ⟨rfl, rfl, rfl, Nat.le_refl _, fun _ _ _ => rfl⟩
theorem Row.grown {w w' : World} {ao : Option Addr} {n b B : Nat} {F T G : Nat → Int} (h : Row w ao n F T G) (hg : w.grownBy w' (some b)) (hB : ∀ a, ao = some a → 0 < n → a.block < b) : Row w' ao n F T G := fun k hk => by
  obtain ⟨b', o, e, c0, c1, c2⟩ := h k hk
  have hlt := hB _ e (by omega)
  have hne : some b' ≠ some b := fun e => by simp at e; simp at hlt; omega
  exact ⟨b', o, e, hg.cell c0 hne, hg.cell c1 hne, hg.cell c2 hne⟩

/-- n arcs behind a slice are the call's own, from block B on. -/
def OwnS (w : World) (B : Nat) (ao : Option Addr) (n : Nat) (f : Nat → Int) : Prop := ∀ k, k < n → ∃ b, ao = some ⟨b, 0, none⟩ ∧ B ≤ b ∧ Has w b n f
theorem OwnS.row {w : World} {B n : Nat} {ao : Option Addr} {F T G : Nat → Int} (h : OwnS w B ao n (ar F T G)) : Row w ao n F T G := fun k hk => by
  obtain ⟨b, e, _, hh⟩ := h k hk
  subst e
  exact hh.row k hk

/-- The marks: cell j holds k + j. -/
def mk (k : Int) (j : Nat) : Int := k + j


end Go.Proofs.YtcmeppjfjledfakDoor
