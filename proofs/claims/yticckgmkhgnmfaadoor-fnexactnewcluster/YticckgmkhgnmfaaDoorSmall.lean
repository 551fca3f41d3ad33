/-
  The small functions of the exact laws of chapter 1: what each call answers, and that nothing that was there has turned. No condition but those that each theorem names.
-/
import Derived.Test.YticckgmkhgnmfaaDoorCore
import Derived.WalkKit
import Derived.WalkSpells
import Derived.WalkLawsBesides
import Derived.Deep.RegionHeld3
import Derived.Deep.OwnRows
set_option linter.unusedVariables false
set_option linter.unusedSimpArgs false
namespace Go.Proofs.YticckgmkhgnmfaaDoor
open Go.RowKit


/-- Cell j of n arcs that lie one behind the other. -/
def ar (F T G : Nat → Int) (j : Nat) : Int := if j % 3 = 0 then F (j / 3) else if j % 3 = 1 then T (j / 3) else G (j / 3)
theorem ar0 (F T G : Nat → Int) (k : Nat) : ar F T G (k * 3) = F k := by
  unfold ar; rw [if_pos (by omega)]; congr 1; omega
theorem ar1 (F T G : Nat → Int) (k : Nat) : ar F T G (k * 3 + 1) = T k := by
  unfold ar; rw [if_neg (by omega), if_pos (by omega)]; congr 1; omega
theorem ar2 (F T G : Nat → Int) (k : Nat) : ar F T G (k * 3 + 2) = G k := by
  unfold ar; rw [if_neg (by omega), if_neg (by omega)]; congr 1; omega

/-- n arcs lie behind a slice's address. -/
def Row (w : World) (ao : Option Addr) (n : Nat) (F T G : Nat → Int) : Prop := ∀ k, k < n → ∃ b o, ao = some ⟨b, o, none⟩ ∧
  w.cell? ⟨b, o + k * 3, none⟩ = some (.int .i64 (F k)) ∧ w.cell? ⟨b, o + k * 3 + 1, none⟩ = some (.int .i64 (T k)) ∧ w.cell? ⟨b, o + k * 3 + 2, none⟩ = some (.int .i64 (G k))

theorem Row.below {w w' : World} {B : Nat} {ao : Option Addr} {n : Nat} {F T G : Nat → Int} (h : Row w ao n F T G) (hb : Below B w w') (hB : w.heap.size ≤ B) : Row w' ao n F T G := fun k hk => by
  obtain ⟨b, o, e, c0, c1, c2⟩ := h k hk
  have hlt := lt_of_cell c0
  exact ⟨b, o, e, by rw [hb.cell (by simp; omega)]; exact c0, by rw [hb.cell (by simp; omega)]; exact c1, by rw [hb.cell (by simp; omega)]; exact c2⟩

theorem Row.alloc {w : World} {ao : Option Addr} {n : Nat} {F T G : Nat → Int} (h : Row w ao n F T G) (o : Obj) : Row (w.alloc o) ao n F T G := h.below ((Below.refl w.heap.size w).alloc (Nat.le_refl _) o) (Nat.le_refl _)

/-- n arcs of the call's own, in a block of their own. -/
def Own (w : World) (b n : Nat) (f : Nat → Int) : Prop := w.rowIs b 82 (n * 3) (fun j => .int .i64 (f j))

theorem Own.row {w : World} {b n : Nat} {F T G : Nat → Int} (h : Own w b n (ar F T G)) : Row w (some ⟨b, 0, none⟩) n F T G := fun k hk => by
  refine ⟨b, 0, rfl, ?_, ?_, ?_⟩
  · have := World.rowIs.cell h (i := k * 3) (by omega); rw [ar0] at this; simpa using this
  · have := World.rowIs.cell h (i := k * 3 + 1) (by omega); rw [ar1] at this; simpa using this
  · have := World.rowIs.cell h (i := k * 3 + 2) (by omega); rw [ar2] at this; simpa using this

theorem Own.below {w w' : World} {b n : Nat} {f : Nat → Int} (h : Own w b n f) (hb : Below w.heap.size w w') : Own w' b n f := World.rowIs.of_block h (hb.block b (World.rowIs.lt h))

theorem Own.three {w : World} {b n k : Nat} {F T G : Nat → Int} (h : Own w b n (upto (ar F T G) (k * 3))) (hk : k < n) :
    Own (((w.setCell ⟨b, k * 3, none⟩ (.int .i64 (F k))).setCell ⟨b, k * 3 + 1, none⟩ (.int .i64 (T k))).setCell ⟨b, k * 3 + 2, none⟩ (.int .i64 (G k))) b n (upto (ar F T G) ((k + 1) * 3)) := by
  refine (((World.rowIs.set h (k * 3) _).set (k * 3 + 1) _).set (k * 3 + 2) _).congr fun j hj => ?_
  by_cases e2 : j = k * 3 + 2
  · subst e2; simp only [if_pos]; unfold upto; rw [if_pos (by omega), ar2]
  by_cases e1 : j = k * 3 + 1
  · subst e1; rw [if_neg (by omega), if_pos rfl]; unfold upto; rw [if_pos (by omega), ar1]
  by_cases e0 : j = k * 3
  · subst e0; rw [if_neg (by omega), if_neg (by omega), if_pos rfl]; unfold upto; rw [if_pos (by omega), ar0]
  rw [if_neg e2, if_neg e1, if_neg e0]; unfold upto
  by_cases hl : j < k * 3
  · rw [if_pos hl, if_pos (by omega)]
  · rw [if_neg hl, if_neg (by omega)]

theorem Tryd.infoArc : (Tryd.prog.info? 82).map (fun i => (i.zero, i.size, i.bytes)) = some (some (.agg #[.int .i64 0, .int .i64 0, .int .i64 0]), 3, 24) := by kernel_rfl

theorem made_own (w : World) (n : Nat) (f : Nat → Int) : Own (w.alloc (.cells (madeCells #[.int .i64 0, .int .i64 0, .int .i64 0] (n * 3)) 82)) w.heap.size n (upto f 0) := by
  refine ⟨_, Go.Deep.blk_alloc_new _ _, size_madeCells _ _, fun i hi => ?_⟩
  have h3 : i % 3 = 0 ∨ i % 3 = 1 ∨ i % 3 = 2 := by omega
  simp [madeCells, hi, upto]
  rcases h3 with h | h | h <;> simp [h]

theorem make_arcs (n : Nat) (hn : n ≤ 1048576) (w : World) :
    (Instr.makeSlice 38 (.int .i64 (n : Int)) (.int .i64 (n : Int))).run Tryd.prog w = .ok (.slice (some ⟨w.heap.size, 0, none⟩) n n) (w.alloc (.cells (madeCells #[.int .i64 0, .int .i64 0, .int .i64 0] (n * 3)) 82)) := by
  obtain ⟨i, hi, hz0, hz1, hz2⟩ := info_parts Tryd.infoArc
  have hr := run_make (P := Tryd.prog) w 38 82 i _ Tryd.underlying38 hi hz0 .i64 .i64 n n (by omega) (Int.le_refl _) (by rw [hz2]; omega) (by omega)
  simpa [hz1, Value.cells] using hr

end Go.Proofs.YticckgmkhgnmfaaDoor
