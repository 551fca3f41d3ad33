/-
  Lists of entries: read behind an address, of the call's own. An entry is a number and a text.
-/
import Derived.Test.YticckgmkhgnmfaaDoorVh
set_option linter.unusedVariables false
set_option linter.unusedSimpArgs false
namespace Go.Proofs.YticckgmkhgnmfaaDoor
open Go.RowKit

/-- Cell j of entries that lie one behind the other. -/
def nr (T : Nat → Int) (X : Nat → ByteArray) (j : Nat) : Value := if j % 2 = 0 then .int .i64 (T (j / 2)) else .string (X (j / 2))
theorem nr0 (T : Nat → Int) (X : Nat → ByteArray) (k : Nat) : nr T X (k * 2) = .int .i64 (T k) := by
  unfold nr; rw [if_pos (by omega)]; congr 2; omega
theorem nr1 (T : Nat → Int) (X : Nat → ByteArray) (k : Nat) : nr T X (k * 2 + 1) = .string (X k) := by
  unfold nr; rw [if_neg (by omega)]; congr 2; omega
theorem nr_congr {T T' : Nat → Int} {X X' : Nat → ByteArray} {n : Nat} (e1 : ∀ k, k < n → T k = T' k) (e2 : ∀ k, k < n → X k = X' k) (j : Nat) (hj : j < n * 2) : nr T X j = nr T' X' j := by
  unfold nr
  split
  · rw [e1 _ (by omega)]
  · rw [e2 _ (by omega)]

/-- n entries lie behind a slice's address. -/
def NRow (w : World) (ao : Option Addr) (n : Nat) (T : Nat → Int) (X : Nat → ByteArray) : Prop := ∀ k, k < n → ∃ b o, ao = some ⟨b, o, none⟩ ∧
  w.cell? ⟨b, o + k * 2, none⟩ = some (.int .i64 (T k)) ∧ w.cell? ⟨b, o + k * 2 + 1, none⟩ = some (.string (X k))
theorem NRow.below {w w' : World} {B : Nat} {ao : Option Addr} {n : Nat} {T : Nat → Int} {X : Nat → ByteArray} (h : NRow w ao n T X) (hb : Below B w w') (hB : w.heap.size ≤ B) : NRow w' ao n T X := fun k hk => by
  obtain ⟨b, o, e, c0, c1⟩ := h k hk
  have hlt := lt_of_cell c0
  exact ⟨b, o, e, by rw [hb.cell (by simp; omega)]; exact c0, by rw [hb.cell (by simp; omega)]; exact c1⟩
theorem NRow.alloc {w : World} {ao : Option Addr} {n : Nat} {T : Nat → Int} {X : Nat → ByteArray} (h : NRow w ao n T X) (o : Obj) : NRow (w.alloc o) ao n T X := h.below ((Below.refl w.heap.size w).alloc (Nat.le_refl _) o) (Nat.le_refl _)
theorem NRow.congr {w : World} {ao : Option Addr} {n : Nat} {T T' : Nat → Int} {X X' : Nat → ByteArray} (h : NRow w ao n T X) (e1 : ∀ k, k < n → T k = T' k) (e2 : ∀ k, k < n → X k = X' k) : NRow w ao n T' X' := fun k hk => by
  obtain ⟨b, o, h1, h2, h3⟩ := h k hk
  exact ⟨b, o, h1, by rw [h2, e1 k hk], by rw [h3, e2 k hk]⟩
theorem NRow.less {w : World} {ao : Option Addr} {n m : Nat} {T : Nat → Int} {X : Nat → ByteArray} (h : NRow w ao n T X) (hm : m ≤ n) : NRow w ao m T X := fun k hk => h k (by omega)

/-- Block b begins with n entries of the call's own, which may be written. -/
abbrev NHas (w : World) (b n : Nat) (T : Nat → Int) (X : Nat → ByteArray) : Prop := VHas w b 110 (n * 2) (nr T X)
theorem nhas_row {w : World} {b n : Nat} {T : Nat → Int} {X : Nat → ByteArray} (h : NHas w b n T X) : NRow w (some ⟨b, 0, none⟩) n T X := fun k hk => by
  refine ⟨b, 0, rfl, ?_, ?_⟩
  · have := h.cell (j := k * 2) (by omega); rw [nr0] at this; simpa using this
  · have := h.cell (j := k * 2 + 1) (by omega); rw [nr1] at this; simpa using this

theorem Tryd.infoEntry : (Tryd.prog.info? 110).map (fun i => (i.zero, i.size, i.bytes)) = some (some (.agg #[.int .i64 0, .string ByteArray.empty]), 2, 24) := by kernel_rfl

end Go.Proofs.YticckgmkhgnmfaaDoor
