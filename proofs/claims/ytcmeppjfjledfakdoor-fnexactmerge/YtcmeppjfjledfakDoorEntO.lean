/-
  Lists of entries of the call's own, as the append's laws speak of them.
-/
import Derived.Test.YtcmeppjfjledfakDoorEnt
import Derived.Deep.AppendLies
import Derived.Laws.OwnMore
set_option linter.unusedVariables false
set_option linter.unusedSimpArgs false
namespace Go.Proofs.YtcmeppjfjledfakDoor
open Go.RowKit

/-- The cells of m entries. -/
def nCells (T : Nat → Int) (X : Nat → ByteArray) (m : Nat) : List Value := (List.range (m * 2)).map (nr T X)
theorem nCells_len (T : Nat → Int) (X : Nat → ByteArray) (m : Nat) : (nCells T X m).length = m * 2 := by simp [nCells]
theorem nCells_at {T : Nat → Int} {X : Nat → ByteArray} {m j : Nat} (h : j < m * 2) : (nCells T X m)[j]? = some (nr T X j) := by simp [nCells, h]
theorem nCells_one (T : Nat → Int) (X : Nat → ByteArray) (m : Nat) : ∀ u ∈ nCells T X m, u.oneCell' = true := fun u hu => by
  simp only [nCells, List.mem_map, List.mem_range] at hu
  obtain ⟨j, _, rfl⟩ := hu
  unfold nr
  split <;> rfl
theorem nCells_app {T U : Nat → Int} {X Y : Nat → ByteArray} {a b : Nat} (T' : Nat → Int) (X' : Nat → ByteArray) (h1 : ∀ j, j < a → T' j = T j ∧ X' j = X j) (h2 : ∀ j, j < b → T' (a + j) = U j ∧ X' (a + j) = Y j) :
    nCells T X a ++ nCells U Y b = nCells T' X' (a + b) := by
  apply List.ext_getElem?
  intro j
  by_cases hj : j < a * 2
  · rw [List.getElem?_append_left (by rw [nCells_len]; exact hj), nCells_at hj, nCells_at (by omega)]
    congr 1
    exact nr_congr (n := a) (fun k hk => (h1 k hk).1.symm) (fun k hk => (h1 k hk).2.symm) j hj
  · rw [List.getElem?_append_right (by rw [nCells_len]; omega), nCells_len]
    by_cases hj2 : j < (a + b) * 2
    · rw [nCells_at (by omega), nCells_at hj2]
      congr 1
      have e : j / 2 = a + (j - a * 2) / 2 := by omega
      have e2 : j % 2 = (j - a * 2) % 2 := by omega
      have := h2 ((j - a * 2) / 2) (by omega)
      unfold nr
      rw [e, e2, this.1, this.2]
    · rw [List.getElem?_eq_none (by rw [nCells_len]; omega), List.getElem?_eq_none (by rw [nCells_len]; omega)]
theorem NRow.news {w : World} {b o n : Nat} {T : Nat → Int} {X : Nat → ByteArray} (hr : NRow w (some ⟨b, o, none⟩) n T X) : ∀ j u, (nCells T X n)[j]? = some u → w.cell? ((⟨b, o, none⟩ : Addr).add j) = some u := fun j u hu => by
  have hj : j < n * 2 := by
    rcases Nat.lt_or_ge j (n * 2) with h | h
    · exact h
    · rw [List.getElem?_eq_none (by rw [nCells_len]; exact h)] at hu; cases hu
  rw [nCells_at hj] at hu
  obtain rfl := Option.some.inj hu
  obtain ⟨b', o', e, c0, c1⟩ := hr (j / 2) (by omega)
  simp only [Option.some.injEq, Addr.mk.injEq, and_true] at e
  obtain ⟨rfl, rfl⟩ := e
  rw [Addr.add_mid]
  unfold nr
  split
  · rename_i h2
    have : o + j = o + j / 2 * 2 := by omega
    rw [this]; exact c0
  · rename_i h2
    have : o + j = o + j / 2 * 2 + 1 := by omega
    rw [this]; exact c1
theorem nhas_of_owns {w : World} {base g n cap : Nat} {T : Nat → Int} {X : Nat → ByteArray} {xs : List Value} (h : w.ownsRow base 36 2 (.slice (some ⟨g, 0, none⟩) n cap) n xs) (hx : xs = nCells T X n) : NHas w g n T X ∧ base ≤ g := by
  obtain ⟨hl, h⟩ := h
  rcases h with ⟨e, _⟩ | ⟨g', cap', cur, e, hb, hblk, hnc, hcm, hsz, ht⟩
  · cases e
  · simp only [Value.slice.injEq, Option.some.injEq, Addr.mk.injEq, and_true, true_and] at e
    obtain ⟨rfl, rfl⟩ := e
    refine ⟨⟨cur, hblk, by have := Nat.mul_le_mul_right 2 hnc; omega, fun j hj => ?_⟩, hb⟩
    have h3 : (cur.toList.take (n * 2))[j]? = some (nr T X j) := by rw [ht, hx, nCells_at hj]
    rw [List.getElem?_take, if_pos hj] at h3
    simpa using h3
theorem empty_ownsN (w : World) : (w.alloc (.cells #[] 36)).ownsRow w.heap.size 36 2 (.slice (some ⟨w.heap.size, 0, none⟩) 0 0) 0 [] := by
  have := World.ownsRow_lit (base := w.heap.size) (e := 36) (size := 2) w #[] 0 (by simp) (by simp) (by simp)
  simpa using this

/-- An answered list of entries, of the call's own. -/
def NOwn (w w' : World) (ao : Option Addr) (n : Nat) (T : Nat → Int) (X : Nat → ByteArray) : Prop := 0 < n → ∃ g, ao = some ⟨g, 0, none⟩ ∧ w.heap.size ≤ g ∧ NHas w' g n T X
theorem NOwn.row {w w' : World} {ao : Option Addr} {n : Nat} {T : Nat → Int} {X : Nat → ByteArray} (h : NOwn w w' ao n T X) : NRow w' ao n T X := fun k hk => by
  obtain ⟨g, rfl, _, hN⟩ := h (by omega)
  exact nhas_row hN k hk

end Go.Proofs.YtcmeppjfjledfakDoor
