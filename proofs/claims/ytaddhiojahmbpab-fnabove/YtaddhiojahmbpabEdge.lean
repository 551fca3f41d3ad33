/-
  Lists of edges: read behind an address, of the call's own, written. Two numbers an edge.
-/
import Derived.Test.YtaddhiojahmbpabInts
set_option linter.unusedVariables false
set_option linter.unusedSimpArgs false
namespace Go.Proofs.Ytaddhiojahmbpab
open Go.RowKit

/-- Cell j of edges that lie one behind the other. -/
def er (L H : Nat → Int) (j : Nat) : Int := if j % 2 = 0 then L (j / 2) else H (j / 2)
theorem er0 (L H : Nat → Int) (k : Nat) : er L H (k * 2) = L k := by
  unfold er; rw [if_pos (by omega)]; congr 1; omega
theorem er1 (L H : Nat → Int) (k : Nat) : er L H (k * 2 + 1) = H k := by
  unfold er; rw [if_neg (by omega)]; congr 1; omega

/-- n edges lie behind a slice's address. -/
def ERow (w : World) (ao : Option Addr) (n : Nat) (L H : Nat → Int) : Prop := ∀ k, k < n → ∃ b o, ao = some ⟨b, o, none⟩ ∧
  w.cell? ⟨b, o + k * 2, none⟩ = some (.int .i64 (L k)) ∧ w.cell? ⟨b, o + k * 2 + 1, none⟩ = some (.int .i64 (H k))
theorem ERow.below {w w' : World} {B : Nat} {ao : Option Addr} {n : Nat} {L H : Nat → Int} (h : ERow w ao n L H) (hb : Below B w w') (hB : w.heap.size ≤ B) : ERow w' ao n L H := fun k hk => by
  obtain ⟨b, o, e, c0, c1⟩ := h k hk
  have hlt := lt_of_cell c0
  exact ⟨b, o, e, by rw [hb.cell (by simp; omega)]; exact c0, by rw [hb.cell (by simp; omega)]; exact c1⟩
theorem ERow.alloc {w : World} {ao : Option Addr} {n : Nat} {L H : Nat → Int} (h : ERow w ao n L H) (o : Obj) : ERow (w.alloc o) ao n L H := h.below ((Below.refl w.heap.size w).alloc (Nat.le_refl _) o) (Nat.le_refl _)
theorem ERow.congr {w : World} {ao : Option Addr} {n : Nat} {L H L' H' : Nat → Int} (h : ERow w ao n L H) (e1 : ∀ k, k < n → L k = L' k) (e2 : ∀ k, k < n → H k = H' k) : ERow w ao n L' H' := fun k hk => by
  obtain ⟨b, o, h1, h2, h3⟩ := h k hk
  exact ⟨b, o, h1, by rw [h2, e1 k hk], by rw [h3, e2 k hk]⟩
theorem ERow.less {w : World} {ao : Option Addr} {n m : Nat} {L H : Nat → Int} (h : ERow w ao n L H) (hm : m ≤ n) : ERow w ao m L H := fun k hk => h k (by omega)

/-- Block b begins with n edges of the call's own, which may be written. -/
def EHas (w : World) (b n : Nat) (f : Nat → Int) : Prop := ∃ cur : Array Value, w.heap[b]? = some (.cells cur 38 (0, 0)) ∧ n * 2 ≤ cur.size ∧ ∀ j, j < n * 2 → cur[j]? = some (.int .i64 (f j))
theorem EHas.cell {w : World} {b n : Nat} {f : Nat → Int} (h : EHas w b n f) {j : Nat} (hj : j < n * 2) : w.cell? ⟨b, j, none⟩ = some (.int .i64 (f j)) := by
  obtain ⟨c, hb, _, hc⟩ := h
  simp [World.cell?, hb, hc j hj]
theorem EHas.frozen {w : World} {b n : Nat} {f : Nat → Int} (h : EHas w b n f) (j : Nat) : w.frozen? ⟨b, j, none⟩ = false := by
  obtain ⟨c, hb, _, _⟩ := h
  simp [World.frozen?, hb]
theorem EHas.lt {w : World} {b n : Nat} {f : Nat → Int} (h : EHas w b n f) : b < w.heap.size := by
  obtain ⟨c, hb, _, _⟩ := h
  exact (Array.getElem?_eq_some_iff.1 hb).1
theorem EHas.of_block {w w' : World} {b n : Nat} {f : Nat → Int} (h : EHas w b n f) (e : w'.heap[b]? = w.heap[b]?) : EHas w' b n f := by
  obtain ⟨c, hb, hn, hc⟩ := h
  exact ⟨c, e.trans hb, hn, hc⟩
theorem EHas.congr {w : World} {b n : Nat} {f g : Nat → Int} (h : EHas w b n f) (e : ∀ j, j < n * 2 → f j = g j) : EHas w b n g := by
  obtain ⟨c, hb, hn, hc⟩ := h
  exact ⟨c, hb, hn, fun j hj => by rw [hc j hj, e j hj]⟩
theorem EHas.set {w : World} {b n : Nat} {f : Nat → Int} (h : EHas w b n f) (i : Nat) (v : Int) : EHas (w.setCell ⟨b, i, none⟩ (.int .i64 v)) b n (fun j => if j = i then v else f j) := by
  obtain ⟨c, hb, hn, hc⟩ := h
  refine ⟨c.setIfInBounds i (.int .i64 v), ?_, by simpa using hn, fun j hj => ?_⟩
  · simp [World.setCell, Array.getElem?_modify, hb]
  · rw [Array.getElem?_setIfInBounds]
    by_cases e : j = i
    · subst e
      simp; omega
    · rw [if_neg (fun h => e h.symm)]
      show c[j]? = some (.int .i64 (if j = i then v else f j))
      rw [if_neg e]
      exact hc j hj
theorem EHas.row {w : World} {b n : Nat} {L H : Nat → Int} (h : EHas w b n (er L H)) : ERow w (some ⟨b, 0, none⟩) n L H := fun k hk => by
  refine ⟨b, 0, rfl, ?_, ?_⟩
  · have := h.cell (j := k * 2) (by omega); rw [er0] at this; simpa using this
  · have := h.cell (j := k * 2 + 1) (by omega); rw [er1] at this; simpa using this
theorem EHas.below {w w' : World} {b n B : Nat} {f : Nat → Int} (h : EHas w b n f) (hb : Below B w w') (hB : b < B) : EHas w' b n f := h.of_block (hb.block b hB)
theorem EHas.next {w w' : World} {b n : Nat} {f : Nat → Int} (h : EHas w b n f) (hb : Below w.heap.size w w') : EHas w' b n f := h.below hb h.lt
theorem EHas.grown {w w' : World} {b n : Nat} {f : Nat → Int} {row : Option Nat} (h : EHas w b n f) (hg : w.grownBy w' row) (hne : some b ≠ row) : EHas w' b n f := h.of_block (hg.block b h.lt hne)
theorem EHas.of_row {w : World} {b n : Nat} {f : Nat → Int} (h : w.rowIs b 38 (n * 2) (fun j => .int .i64 (f j))) : EHas w b n f := by
  obtain ⟨c, hb, hn, hc⟩ := h
  exact ⟨c, hb, by omega, hc⟩

theorem Try.infoEdge : (Try.prog.info? 38).map (fun i => (i.zero, i.size, i.bytes)) = some (some (.agg #[.int .i64 0, .int .i64 0]), 2, 16) := by kernel_rfl

/-- An answered list of edges, of the call's own. -/
def EAns (w w' : World) (e : Ending) (m : Nat) (L H : Nat → Int) : Prop := ∃ ao cap, e = .returned (.slice ao m cap) ∧ (0 < m → ∃ g, ao = some ⟨g, 0, none⟩ ∧ w.heap.size ≤ g ∧ EHas w' g m (er L H)) ∧ Below w.heap.size w w'

end Go.Proofs.Ytaddhiojahmbpab
