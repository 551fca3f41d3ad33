/-
  The program's heap: the first is taken out of it.
-/
import Derived.Test.YticckgmkhgnmfaaDoorSinkP
set_option linter.unusedVariables false
set_option linter.unusedSimpArgs false
namespace Go.Proofs.YticckgmkhgnmfaaDoor
open Go.RowKit Go.Maps
attribute [local go_sem ↓] Go.wp_at_zero Go.wp_at_succ

theorem HList.cut {w : World} {hb g cap n : Nat} {E : Nat → Int × Int} (h : HList w hb g cap (n + 1) E) : HList (w.setCell ⟨hb, 0, none⟩ (.slice (some ⟨g, 0, none⟩) n cap)) hb g cap n E :=
  ⟨by simp [World.setCell, Array.getElem?_modify, h.1], (h.2.1.less (Nat.le_succ n)).of_block (Below.heap_setCell _ _ _ _ (Nat.ne_of_gt h.2.2)), h.2.2⟩

theorem HList.put0 {w : World} {hb g cap n : Nat} {E : Nat → Int × Int} (h : HList w hb g cap (n + 1) E) (x y : Int) :
    HList ((w.setCell ⟨g, 0, none⟩ (.int .i64 x)).setCell ⟨g, 1, none⟩ (.int .i64 y)) hb g cap (n + 1) (upP E 0 (x, y)) := by
  have := h.put2 (k := 0) (by omega) x y
  simpa using this
theorem HList.aside {w : World} {hb g cap n b o : Nat} {v : Value} {E : Nat → Int × Int} (h : HList w hb g cap n E) (h1 : b ≠ hb) (h2 : b ≠ g) : HList (w.setCell ⟨b, o, none⟩ v) hb g cap n E :=
  ⟨(Below.heap_setCell _ _ _ _ (fun e => h1 (by simpa using e.symm))).trans h.1, h.2.1.of_block (Below.heap_setCell _ _ _ _ (fun e => h2 (by simpa using e.symm))), h.2.2⟩
theorem Stays.frozen {w w1 : World} {hb b o : Nat} {ob : Option Nat} {v : Bool} (h : Stays w w1 hb ob) (h1 : b ≠ hb) (h2 : some b ≠ ob) (hl : b < w.heap.size) (hc : w.frozen? ⟨b, o, none⟩ = v) : w1.frozen? ⟨b, o, none⟩ = v :=
  (World.frozen?_of_block (h.block b hl h1 h2)).trans hc

set_option maxRecDepth 1000000 in
set_option maxHeartbeats 4000000 in
theorem take_any (hb g cap n : Nat) (E : Nat → Int × Int) (hn : n ≤ 1000000000) (w : World) (h : HList w hb g cap (n + 1) E) :
    Calls Tryd.prog 88 #[.pointer (some ⟨hb, 0, none⟩)] w fun e w' => e = .returned (.agg #[.int .i64 (E 0).1, .int .i64 (E 0).2]) ∧ ∃ E', HList w' hb g cap n E' ∧ (∀ x, Mem E' n x ↔ Mem (upP E 0 (E n)) n x) ∧ Stays w w' hb (some g) := by
  have c0 := h.word
  have f0 := h.wfree
  have hlt0 : hb < w.heap.size := lt_of_cell c0
  have hlt1 : g < w.heap.size := h.2.1.lt
  have hgb : g ≠ hb := Nat.ne_of_gt h.2.2
  obtain ⟨a0, a1⟩ := h.2.1.cells (k := 0) (by omega)
  obtain ⟨b0, b1⟩ := h.2.1.cells (k := n) (by omega)
  simp only [Nat.zero_mul, Nat.zero_add] at a0 a1
  have z0 := h.2.1.frozen 0
  have z1 := h.2.1.frozen 1
  have hcap : n + 1 ≤ cap := by obtain ⟨_, _, _, hc, _⟩ := h.2.1; exact hc
  go_enter Tryd.func88, Tryd.ntmps88
  have PK : Hid (HList w hb g cap (n + 1) E) := h
  clear h
  have hx1 : (n : Int) < (n : Int) + 1 := by omega
  have hx2 : (n : Int) ≤ (cap : Int) := by omega
  go_wp2
  go_big_region
  go_wp2_with fail
  have h := PK.out
  have h3 := ((((h.put0 (E n).1 (E n).2).cut).below ((Below.refl _ _).alloc (Nat.le_refl _) (.cells #[.int .i64 0, .int .i64 0] 127)) (Nat.le_refl _)).below ((Below.refl _ _).alloc (Nat.le_refl _) (.cells #[.int .i64 (E 0).1, .int .i64 (E 0).2] 127)) (Nat.le_refl _)).drew1
  have st := (((((Stays.refl w hb (some g)).setG 0 (Or.inr rfl) (.int .i64 (E n).1)).setG 1 (Or.inr rfl) (.int .i64 (E n).2)).setH 0 (.slice (some ⟨g, 0, none⟩) n cap)).next ((Below.refl _ _).alloc (Nat.le_refl _) (.cells #[.int .i64 0, .int .i64 0] 127))).next ((Below.refl _ _).alloc (Nat.le_refl _) (.cells #[.int .i64 (E 0).1, .int .i64 (E 0).2] 127))
  have st := st.drew1
  clear h PK a0 a1 b0 b1 z0 z1 c0 f0
  refine (sink_any hb g cap n _ hn _ h3).mono ?_
  rintro e w5 ⟨rfl, E5, hH5, hM5, hS5⟩
  have r0 : w5.cell? ⟨w.heap.size, 0, none⟩ = some (.int .i64 0) := hS5.cell (by omega) (by simp; omega) (by simp [go_sem])
  have r1 : w5.cell? ⟨w.heap.size, 1, none⟩ = some (.int .i64 0) := hS5.cell (by omega) (by simp; omega) (by simp [go_sem])
  have t0 : w5.cell? ⟨w.heap.size + 1, 0, none⟩ = some (.int .i64 (E 0).1) := hS5.cell (by omega) (by simp; omega) (by simp [go_sem])
  have t1 : w5.cell? ⟨w.heap.size + 1, 1, none⟩ = some (.int .i64 (E 0).2) := hS5.cell (by omega) (by simp; omega) (by simp [go_sem])
  have y0 : w5.frozen? ⟨w.heap.size, 0, none⟩ = false := hS5.frozen (by omega) (by simp; omega) (by simp; omega) (by simp [go_sem])
  have y1 : w5.frozen? ⟨w.heap.size, 1, none⟩ = false := hS5.frozen (by omega) (by simp; omega) (by simp; omega) (by simp [go_sem])
  have hF := (hH5.aside (b := w.heap.size) (o := 0) (v := .int .i64 (E 0).1) (by omega) (by omega)).aside (b := w.heap.size) (o := 1) (v := .int .i64 (E 0).2) (by omega) (by omega)
  have hG := ((st.trans hS5).setG 0 (Or.inl (Nat.le_refl w.heap.size)) (.int .i64 (E 0).1)).setG 1 (Or.inl (Nat.le_refl w.heap.size)) (.int .i64 (E 0).2)
  have HM : Hid (∀ x, Mem E5 n x ↔ Mem (upP E 0 (E n)) n x) := hM5
  clear hS5 hH5 hM5 st h3
  go_wp2
  have q0 : (w5.setCell ⟨w.heap.size, 0, none⟩ (.int .i64 (E 0).1)).cell? ⟨w.heap.size, 0, none⟩ = some (.int .i64 (E 0).1) := World.cell?_setCell_same _ _ _ r0
  have q1 : ((w5.setCell ⟨w.heap.size, 0, none⟩ (.int .i64 (E 0).1)).setCell ⟨w.heap.size, 1, none⟩ (.int .i64 (E 0).2)).cell? ⟨w.heap.size, 1, none⟩ = some (.int .i64 (E 0).2) := World.cell?_setCell_same _ _ _ (by rw [World.cell?_setCell_other _ _ _ _ (by simp)]; exact r1)
  simp [bodyPost, results, Tryd.results88, go_sem, q0, q1]
  exact ⟨E5, hF, fun a b => HM.out (a, b), hG⟩

end Go.Proofs.YticckgmkhgnmfaaDoor
