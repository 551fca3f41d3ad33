/-
  Lists of numbers: read behind an address, of the call's own, copied, held against each other, marked. For every list of at most 2^20 numbers.
-/
import Derived.Test.YticckgmkhgnmfaaDoorBase
set_option linter.unusedVariables false
set_option linter.unusedSimpArgs false
namespace Go.Proofs.YticckgmkhgnmfaaDoor
open Go.RowKit
attribute [local go_sem ↓] Go.wp_at_zero Go.wp_at_succ

/-- n numbers lie behind a slice's address. -/
def IRow (w : World) (ao : Option Addr) (n : Nat) (f : Nat → Int) : Prop := ∀ k, k < n → ∃ b o, ao = some ⟨b, o, none⟩ ∧ w.cell? ⟨b, o + k, none⟩ = some (.int .i64 (f k))
theorem IRow.below {w w' : World} {B : Nat} {ao : Option Addr} {n : Nat} {f : Nat → Int} (h : IRow w ao n f) (hb : Below B w w') (hB : w.heap.size ≤ B) : IRow w' ao n f := fun k hk => by
  obtain ⟨b, o, e, c0⟩ := h k hk
  have hlt := lt_of_cell c0
  exact ⟨b, o, e, by rw [hb.cell (by simp; omega)]; exact c0⟩
theorem IRow.alloc {w : World} {ao : Option Addr} {n : Nat} {f : Nat → Int} (h : IRow w ao n f) (o : Obj) : IRow (w.alloc o) ao n f := h.below ((Below.refl w.heap.size w).alloc (Nat.le_refl _) o) (Nat.le_refl _)
theorem IRow.congr {w : World} {ao : Option Addr} {n : Nat} {f g : Nat → Int} (h : IRow w ao n f) (e : ∀ k, k < n → f k = g k) : IRow w ao n g := fun k hk => by
  obtain ⟨b, o, h1, h2⟩ := h k hk
  exact ⟨b, o, h1, by rw [h2, e k hk]⟩

/-- Block b begins with n numbers of the call's own, which may be written. -/
def IHas (w : World) (b n : Nat) (f : Nat → Int) : Prop := ∃ cur : Array Value, w.heap[b]? = some (.cells cur 2 (0, 0)) ∧ n ≤ cur.size ∧ ∀ j, j < n → cur[j]? = some (.int .i64 (f j))
theorem IHas.cell {w : World} {b n : Nat} {f : Nat → Int} (h : IHas w b n f) {j : Nat} (hj : j < n) : w.cell? ⟨b, j, none⟩ = some (.int .i64 (f j)) := by
  obtain ⟨c, hb, _, hc⟩ := h
  simp [World.cell?, hb, hc j hj]
theorem IHas.frozen {w : World} {b n : Nat} {f : Nat → Int} (h : IHas w b n f) (j : Nat) : w.frozen? ⟨b, j, none⟩ = false := by
  obtain ⟨c, hb, _, _⟩ := h
  simp [World.frozen?, hb]
theorem IHas.lt {w : World} {b n : Nat} {f : Nat → Int} (h : IHas w b n f) : b < w.heap.size := by
  obtain ⟨c, hb, _, _⟩ := h
  exact (Array.getElem?_eq_some_iff.1 hb).1
theorem IHas.of_block {w w' : World} {b n : Nat} {f : Nat → Int} (h : IHas w b n f) (e : w'.heap[b]? = w.heap[b]?) : IHas w' b n f := by
  obtain ⟨c, hb, hn, hc⟩ := h
  exact ⟨c, e.trans hb, hn, hc⟩
theorem IHas.congr {w : World} {b n : Nat} {f g : Nat → Int} (h : IHas w b n f) (e : ∀ j, j < n → f j = g j) : IHas w b n g := by
  obtain ⟨c, hb, hn, hc⟩ := h
  exact ⟨c, hb, hn, fun j hj => by rw [hc j hj, e j hj]⟩
theorem IHas.set {w : World} {b n : Nat} {f : Nat → Int} (h : IHas w b n f) (i : Nat) (v : Int) : IHas (w.setCell ⟨b, i, none⟩ (.int .i64 v)) b n (fun j => if j = i then v else f j) := by
  obtain ⟨c, hb, hn, hc⟩ := h
  refine ⟨c.setIfInBounds i (.int .i64 v), ?_, by simpa using hn, fun j hj => ?_⟩
  · simp [World.setCell, Array.getElem?_modify, hb]
  · rw [Array.getElem?_setIfInBounds]
    by_cases e : j = i
    · subst e
      simp; omega
    · rw [if_neg (fun h => e h.symm)]
      show c[j]? = some (.int .i64 (if j = i then v else f j))
      rw [if_neg e]
      exact hc j hj
theorem IHas.row {w : World} {b n : Nat} {f : Nat → Int} (h : IHas w b n f) : IRow w (some ⟨b, 0, none⟩) n f := fun k hk => ⟨b, 0, rfl, by simpa using h.cell hk⟩
theorem IHas.below {w w' : World} {b n B : Nat} {f : Nat → Int} (h : IHas w b n f) (hb : Below B w w') (hB : b < B) : IHas w' b n f := h.of_block (hb.block b hB)
theorem IHas.grown {w w' : World} {b n : Nat} {f : Nat → Int} {row : Option Nat} (h : IHas w b n f) (hg : w.grownBy w' row) (hne : some b ≠ row) : IHas w' b n f := h.of_block (hg.block b h.lt hne)
theorem IHas.of_row {w : World} {b n : Nat} {f : Nat → Int} (h : w.rowIs b 2 n (fun j => .int .i64 (f j))) : IHas w b n f := by
  obtain ⟨c, hb, hn, hc⟩ := h
  exact ⟨c, hb, by omega, hc⟩

theorem Tryd.infoInt : (Tryd.prog.info? 2).map (fun i => (i.zero, i.size, i.bytes)) = some (some (.int .i64 0), 1, 8) := by kernel_rfl
theorem make_ints (n : Nat) (hn : n ≤ 1048576) (w : World) :
    (Instr.makeSlice 49 (.int .i64 (n : Int)) (.int .i64 (n : Int))).run Tryd.prog w = .ok (.slice (some ⟨w.heap.size, 0, none⟩) n n) (w.alloc (.cells (madeCells #[.int .i64 0] n) 2)) :=
  run_make_row' 49 2 _ 8 Tryd.underlying49 Tryd.infoInt rfl .i64 .i64 n (by omega) (by omega) w
theorem made_ints (w : World) (n : Nat) : IHas (w.alloc (.cells (madeCells #[.int .i64 0] n) 2)) w.heap.size n (fun _ => 0) := IHas.of_row (World.rowIs_made w _ n _)





end Go.Proofs.YticckgmkhgnmfaaDoor
